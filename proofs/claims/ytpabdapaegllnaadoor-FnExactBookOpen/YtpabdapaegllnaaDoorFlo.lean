/- Whole numbers below 2^53 as float64: their sums and comparisons are exact (no program in it). -/
import Derived.Laws.ComplexArith
namespace Go.Proofs.YtpabdapaegllnaaDoor
open Ieee

/-- The bits of the float64 of a natural number. -/
def fl (n : Nat) : Nat := Ieee.double.nearest false n 0

theorem fl_zero : fl 0 = 0 := rfl

theorem log2_mul_two_pow {n : Nat} (h : n ≠ 0) (q : Nat) : (n * 2 ^ q).log2 = n.log2 + q := by
  rw [Nat.log2_eq_iff (by have := Nat.two_pow_pos q; exact Nat.mul_ne_zero h (by omega))]
  obtain ⟨h1, h2⟩ := (Nat.log2_eq_iff h).1 rfl
  constructor
  · rw [Nat.pow_add]; exact Nat.mul_le_mul_right _ h1
  · rw [show n.log2 + q + 1 = (n.log2 + 1) + q by omega, Nat.pow_add]; exact Nat.mul_lt_mul_of_pos_right h2 (Nat.two_pow_pos q)

theorem cut_zero (neg : Bool) (n : Nat) : Toward.even.cut neg n 0 = n := by
  simp [Toward.cut, Nat.mod_one]

theorem cut_exact (neg : Bool) (k drop : Nat) (h : k ≠ 0) : Toward.even.cut neg (k * 2 ^ drop) drop = k := by
  have hl := log2_mul_two_pow h drop
  have hp := Nat.two_pow_pos drop
  have hm : min drop ((k * 2 ^ drop).log2 + 2) = drop := by omega
  unfold Toward.cut
  simp only [hm, Nat.shiftLeft_eq, Nat.one_mul]
  rw [Nat.mul_div_cancel _ hp, Nat.mul_mod_left]
  have e1 : (2 ^ drop < 2 * 0) = False := by simp
  have e2 : (2 ^ drop == 2 * 0) = false := by simp
  simp [e2]

/-- The bits of a number, and what stands there. -/
theorem nearest_is {n : Nat} (h0 : n ≠ 0) (h1 : n < 2 ^ 53) (q : Nat) :
    Ieee.double.nearest false (n * 2 ^ q) (-(q : Int)) = (n.log2 + 1022) * 2 ^ 52 + n * 2 ^ (52 - n.log2) := by
  have hL : n.log2 < 53 := (Nat.log2_lt h0).2 h1
  obtain ⟨g1, g2⟩ := (Nat.log2_eq_iff h0).1 rfl
  have hk : n * 2 ^ (52 - n.log2) < 2 ^ 53 := by
    calc n * 2 ^ (52 - n.log2) < 2 ^ (n.log2 + 1) * 2 ^ (52 - n.log2) := Nat.mul_lt_mul_of_pos_right g2 (Nat.two_pow_pos _)
      _ = 2 ^ 53 := by rw [← Nat.pow_add]; congr 1; omega
  have hne : n * 2 ^ q ≠ 0 := Nat.mul_ne_zero h0 (by have := Nat.two_pow_pos q; omega)
  unfold Format.nearest
  rw [if_neg hne, log2_mul_two_pow h0]
  have elast : max (-(q : Int) + ((n.log2 + q : Nat) : Int) - (Ieee.double.fractionBits : Int)) Ieee.double.leastPlace = (n.log2 : Int) - 52 := by
    have e1 : Ieee.double.leastPlace = -1074 := by decide
    have e2 : Ieee.double.fractionBits = 52 := rfl
    rw [e1, e2]; omega
  dsimp only
  rw [elast]
  have ekept : Toward.even.cut false ((n * 2 ^ q) <<< (-(q : Int) - ((n.log2 : Int) - 52)).toNat) (((n.log2 : Int) - 52) - -(q : Int)).toNat = n * 2 ^ (52 - n.log2) := by
    rcases Nat.lt_or_ge (52 - n.log2) q with hq | hq
    · have e1 : (-(q : Int) - ((n.log2 : Int) - 52)).toNat = 0 := by omega
      have e2 : (((n.log2 : Int) - 52) - -(q : Int)).toNat = q - (52 - n.log2) := by omega
      rw [e1, e2, Nat.shiftLeft_zero]
      have e3 : n * 2 ^ q = n * 2 ^ (52 - n.log2) * 2 ^ (q - (52 - n.log2)) := by
        rw [Nat.mul_assoc, ← Nat.pow_add]; congr 2; omega
      rw [e3]
      exact cut_exact _ _ _ (Nat.mul_ne_zero h0 (by have := Nat.two_pow_pos (52 - n.log2); omega))
    · have e1 : (-(q : Int) - ((n.log2 : Int) - 52)).toNat = 52 - n.log2 - q := by omega
      have e2 : (((n.log2 : Int) - 52) - -(q : Int)).toNat = 0 := by omega
      rw [e1, e2, cut_zero, Nat.shiftLeft_eq, Nat.mul_assoc, ← Nat.pow_add]
      congr 2; omega
  rw [ekept]
  have e4 : ((n.log2 : Int) - 52 - Ieee.double.leastPlace).toNat = n.log2 + 1022 := by
    have e1 : Ieee.double.leastPlace = -1074 := by decide
    rw [e1]; omega
  rw [e4]
  have e5 : Ieee.double.binade = 2 ^ 52 := rfl
  have e6 : Ieee.double.infRung = 2047 * 2 ^ 52 := by decide
  rw [e5, e6]
  unfold Format.word
  simp only [Bool.false_eq_true, if_false]
  omega

theorem fl_is {n : Nat} (h0 : n ≠ 0) (h1 : n < 2 ^ 53) : fl n = (n.log2 + 1022) * 2 ^ 52 + n * 2 ^ (52 - n.log2) := by
  have := nearest_is h0 h1 0
  simpa [fl] using this

theorem nearest_fl {n : Nat} (h1 : n < 2 ^ 53) (q : Nat) : Ieee.double.nearest false (n * 2 ^ q) (-(q : Int)) = fl n := by
  by_cases h0 : n = 0
  · subst h0; simp [fl, Format.nearest]
  · rw [nearest_is h0 h1, fl_is h0 h1]

/-- What is read: n times 2^q at the place -q. -/
theorem read_fl {n : Nat} (h1 : n < 2 ^ 53) : ∃ q : Nat, q ≤ 1074 ∧ ∃ m : Nat, ∃ p : Int, Ieee.double.read (fl n) = .number false m p ∧ p = -(q : Int) ∧ m = n * 2 ^ q := by
  by_cases h0 : n = 0
  · subst h0
    obtain ⟨q, hq⟩ : ∃ q : Nat, q = 1074 := ⟨_, rfl⟩
    exact ⟨q, by omega, 0, -1074, by decide, by omega, (Nat.zero_mul _).symm⟩
  · have hL : n.log2 < 53 := (Nat.log2_lt h0).2 h1
    obtain ⟨g1, g2⟩ := (Nat.log2_eq_iff h0).1 rfl
    have hk : n * 2 ^ (52 - n.log2) < 2 ^ 53 := by
      calc n * 2 ^ (52 - n.log2) < 2 ^ (n.log2 + 1) * 2 ^ (52 - n.log2) := Nat.mul_lt_mul_of_pos_right g2 (Nat.two_pow_pos _)
        _ = 2 ^ 53 := by rw [← Nat.pow_add]; congr 1; omega
    have hk' : 2 ^ 52 ≤ n * 2 ^ (52 - n.log2) := by
      calc 2 ^ 52 = 2 ^ n.log2 * 2 ^ (52 - n.log2) := by rw [← Nat.pow_add]; congr 1; omega
        _ ≤ n * 2 ^ (52 - n.log2) := Nat.mul_le_mul_right _ g1
    rw [fl_is h0 h1]
    generalize hkk : n * 2 ^ (52 - n.log2) = k at *
    refine ⟨52 - n.log2, by omega, k, (n.log2 : Int) - 52, ?_, by omega, hkk.symm⟩
    have e1 : Ieee.double.leastPlace = -1074 := by decide
    have e3 : Ieee.double.signWeight = 2 ^ 63 := by decide
    have e5 : Ieee.double.binade = 2 ^ 52 := rfl
    have e6 : Ieee.double.infRung = 2047 * 2 ^ 52 := by decide
    unfold Format.read
    rw [e1, e3, e5, e6]
    dsimp only
    have d1 : ((n.log2 + 1022) * 2 ^ 52 + k) / 2 ^ 63 % 2 = 0 := by omega
    have d2 : ((n.log2 + 1022) * 2 ^ 52 + k) % 2 ^ 63 = (n.log2 + 1022) * 2 ^ 52 + k := by omega
    rw [d1, d2, if_neg (by omega), if_pos (by omega)]
    have d3 : ((n.log2 + 1022) * 2 ^ 52 + k) % 2 ^ 52 = k - 2 ^ 52 := by omega
    have d4 : ((n.log2 + 1022) * 2 ^ 52 + k) / 2 ^ 52 = n.log2 + 1023 := by omega
    rw [d3, d4]
    have d5 : 2 ^ 52 + (k - 2 ^ 52) = k := by omega
    have d6 : (-1074 : Int) + ((n.log2 + 1023 - 1 : Nat) : Int) = (n.log2 : Int) - 52 := by omega
    rw [d5, d6]
    rfl

theorem shl_pow (n q b : Nat) (h : q ≤ b) : (n * 2 ^ q) <<< (-(q : Int) - -(b : Int)).toNat = n * 2 ^ b := by
  rw [show (-(q : Int) - -(b : Int)).toNat = b - q by omega, Nat.shiftLeft_eq, Nat.mul_assoc, ← Nat.pow_add]
  congr 2; omega

/-- '+' is exact. -/
theorem fl_add {a b : Nat} (h : a + b < 2 ^ 53) : floatBits .add .f64 (fl a) (fl b) = some (fl (a + b)) := by
  obtain ⟨q, _, m, p, hr, rfl, rfl⟩ := read_fl (n := a) (by omega)
  obtain ⟨r, _, m', p', hr', rfl, rfl⟩ := read_fl (n := b) (by omega)
  show Ieee.double.add (fl a) (fl b) = _
  unfold Format.add
  rw [hr, hr']
  simp only [Datum.sum, Option.map_some, Format.write]
  congr 1
  have hb : min (-(q : Int)) (-(r : Int)) = -((max q r : Nat) : Int) := by omega
  rw [hb]
  simp only [signed, Bool.false_eq_true, if_false]
  rw [shl_pow _ _ _ (Nat.le_max_left ..), shl_pow _ _ _ (Nat.le_max_right ..)]
  generalize max q r = t
  have e : ((a * 2 ^ t : Nat) : Int) + ((b * 2 ^ t : Nat) : Int) = (((a + b) * 2 ^ t : Nat) : Int) := by
    rw [Nat.add_mul]; push_cast; rfl
  rw [e]
  have e' : (if ((((a + b) * 2 ^ t : Nat) : Int)) = 0 then (false && false) else decide ((((a + b) * 2 ^ t : Nat) : Int) < 0)) = false := by
    split
    · rfl
    · exact decide_eq_false (by omega)
  rw [e', Int.natAbs_natCast]
  exact nearest_fl h t

/-- The order is that of the numbers. -/
theorem fl_order {a b : Nat} (ha : a < 2 ^ 53) (hb : b < 2 ^ 53) : Ieee.double.order (fl a) (fl b) = some (compare a b) := by
  obtain ⟨q, _, m, p, hr, rfl, rfl⟩ := read_fl ha
  obtain ⟨r, _, m', p', hr', rfl, rfl⟩ := read_fl hb
  unfold Format.order
  rw [hr, hr']
  simp only [Datum.order]
  congr 1
  have hb : min (-(q : Int)) (-(r : Int)) = -((max q r : Nat) : Int) := by omega
  rw [hb]
  simp only [signed, Bool.false_eq_true, if_false]
  rw [shl_pow _ _ _ (Nat.le_max_left ..), shl_pow _ _ _ (Nat.le_max_right ..)]
  have hp := Nat.two_pow_pos (max q r)
  generalize 2 ^ max q r = t at *
  rcases Nat.lt_trichotomy a b with h | h | h
  · have h' : a * t < b * t := Nat.mul_lt_mul_of_pos_right h hp
    rw [Nat.compare_eq_lt.2 h, Int.compare_eq_lt.2 (by exact_mod_cast h')]
  · subst h; simp
  · have h' : b * t < a * t := Nat.mul_lt_mul_of_pos_right h hp
    rw [Nat.compare_eq_gt.2 h, Int.compare_eq_gt.2 (by exact_mod_cast h')]

theorem fl_neq {a b : Nat} (ha : a < 2 ^ 53) (hb : b < 2 ^ 53) : (Ieee.double.order (fl a) (fl b) != some .eq) = decide (a ≠ b) := by
  rw [fl_order ha hb]
  rcases Nat.lt_trichotomy a b with h | h | h
  · rw [Nat.compare_eq_lt.2 h, decide_eq_true (Nat.ne_of_lt h)]; rfl
  · subst h; simp
  · rw [Nat.compare_eq_gt.2 h, decide_eq_true (Nat.ne_of_gt h)]; rfl

theorem near_fl (n : Nat) : FloatKind.f64.nearest (n : Int) = fl n := by
  show Ieee.double.write (.number (decide ((n : Int) < 0)) (n : Int).natAbs 0) = _
  have e : decide ((n : Int) < 0) = false := decide_eq_false (by omega)
  rw [e]; rfl

end Go.Proofs.YtpabdapaegllnaaDoor
