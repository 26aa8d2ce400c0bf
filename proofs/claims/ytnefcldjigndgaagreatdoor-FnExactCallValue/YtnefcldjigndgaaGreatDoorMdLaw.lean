/- Shares of money in the model (spec.MulDiv), and the law that holds impl.MulDiv against it. -/
import Derived.Test.YtnefcldjigndgaaGreatDoorMd
namespace Go.Proofs.YtnefcldjigndgaaGreatDoor
open Go.RowKit

theorem ret_int {k : IntKind} {a b : Int} (h : a = b) : Ending.returned (.int k a) = .returned (.int k b) := by rw [h]
theorem near_parts (a b c : Nat) (hc : 0 < c) : a * b / c = a / 1000000 * b / c * 1000000 + (a / 1000000 * b % c * 1000000 + a % 1000000 * b) / c ∧ a * b % c = (a / 1000000 * b % c * 1000000 + a % 1000000 * b) % c := by
  have e : a * b = c * (a / 1000000 * b / c * 1000000) + (a / 1000000 * b % c * 1000000 + a % 1000000 * b) := by
    have h1 : a * b = (1000000 * (a / 1000000) + a % 1000000) * b := by rw [Nat.div_add_mod]
    have h2 : c * (a / 1000000 * b / c) + a / 1000000 * b % c = a / 1000000 * b := Nat.div_add_mod _ _
    have h3 : (1000000 * (a / 1000000) + a % 1000000) * b = 1000000 * (a / 1000000 * b) + a % 1000000 * b := by rw [Nat.add_mul, Nat.mul_assoc]
    have h4 : c * (a / 1000000 * b / c * 1000000) = c * (a / 1000000 * b / c) * 1000000 := by rw [Nat.mul_assoc]
    rw [h1, h3, h4]
    generalize a / 1000000 * b = h at *
    generalize c * (h / c) = x at *
    omega
  constructor
  · conv => lhs; rw [e]
    rw [Nat.mul_add_div hc]
  · conv => lhs; rw [e]
    rw [Nat.mul_add_mod]

set_option maxHeartbeats 1000000 in
theorem spec_near (a b c : Nat) (w : World) (ha : a ≤ 1000000000000) (hb : b ≤ 10000000000) (hc : 0 < c) (hc2 : c ≤ 1000000000) :
    Calls Tryz.prog 30 #[.int .i64 a, .int .i64 b, .int .i64 c] w fun e w' => (∃ n : Nat, e = .returned (.int .i64 n) ∧ n ≤ 20000000000000000 ∧ (n = nearN (a * b) c ∨ n = 2000000000000 ∧ 1000000000000 < nearN (a * b) c)) ∧ w' = w := by
  obtain ⟨p1, p2⟩ := near_parts a b c hc
  have hN : nearN (a * b) c = roundN (a / 1000000 * b / c * 1000000 + (a / 1000000 * b % c * 1000000 + a % 1000000 * b) / c) ((a / 1000000 * b % c * 1000000 + a % 1000000 * b) % c) c := by
    unfold nearN; rw [p1, p2]
  have i1 : (a : Int) / 1000000 * (b : Int) = ((a / 1000000 * b : Nat) : Int) := by rw [Int.natCast_mul, Int.natCast_ediv]; rfl
  have i2 : (a : Int) % 1000000 * (b : Int) = ((a % 1000000 * b : Nat) : Int) := by rw [Int.natCast_mul, Int.natCast_emod]; rfl
  have k1 : a / 1000000 * b ≤ 1000000 * 10000000000 := Nat.mul_le_mul (by omega) hb
  have k2 : a % 1000000 * b ≤ 1000000 * 10000000000 := Nat.mul_le_mul (by omega) hb
  clear p1 p2
  generalize nearN (a * b) c = N at *
  generalize a / 1000000 * b = h at *
  generalize a % 1000000 * b = k at *
  have i3 : (h : Int) / (c : Int) = ((h / c : Nat) : Int) := (Int.natCast_ediv _ _).symm
  have i4 : (h : Int) % (c : Int) = ((h % c : Nat) : Int) := (Int.natCast_emod _ _).symm
  have k3 : h % c < c := Nat.mod_lt _ hc
  have k4 : h / c ≤ h := Nat.div_le_self _ _
  generalize h / c = q at *
  generalize h % c = g at *
  have i5 : ((g : Int) * 1000000 + (k : Int)) / (c : Int) = (((g * 1000000 + k) / c : Nat) : Int) := by rw [Int.natCast_ediv]; congr 1
  have i6 : ((g : Int) * 1000000 + (k : Int)) % (c : Int) = (((g * 1000000 + k) % c : Nat) : Int) := by rw [Int.natCast_emod]; congr 1
  have k5 : (g * 1000000 + k) % c < c := Nat.mod_lt _ hc
  have k6 : (g * 1000000 + k) / c ≤ g * 1000000 + k := Nat.div_le_self _ _
  generalize (g * 1000000 + k) / c = m at *
  generalize (g * 1000000 + k) % c = r at *
  have kq := (roundN_ge (q * 1000000 + m) r c).1
  by_cases hq : 2000000 < q
  · have HP : Hid (1000000000000 < N) := by rw [Hid, hN]; omega
    have t1 : decide (2000000 < (q : Int)) = true := by simp; omega
    clear hN kq i5 i6
    go_enter Tryz.func30, Tryz.ntmps30
    go_wp2
    go_ret
    exact ⟨⟨2000000000000, rfl, by omega, Or.inr ⟨rfl, HP.out⟩⟩, rfl⟩
  have t1 : decide (2000000 < (q : Int)) = false := by simp; omega
  by_cases h1 : c < 2 * r
  · have HP : Hid (N = q * 1000000 + (m + 1)) := by rw [Hid, hN]; unfold roundN; rw [if_pos (Or.inl h1)]; omega
    have t2 : decide ((c : Int) < 2 * (r : Int)) = true := by simp; omega
    clear hN kq
    go_enter Tryz.func30, Tryz.ntmps30
    go_wp2
    go_ret
    refine ⟨⟨q * 1000000 + (m + 1), ?_, by omega, Or.inl HP.out.symm⟩, rfl⟩
    exact ret_int (by omega)
  have t2 : decide ((c : Int) < 2 * (r : Int)) = false := by simp; omega
  by_cases h2 : 2 * r = c
  · have t3 : (2 * (r : Int) == (c : Int)) = true := by rw [beq_iff_eq]; omega
    by_cases h3 : (q * 1000000 + m) % 2 = 1
    · have HP : Hid (N = q * 1000000 + (m + 1)) := by rw [Hid, hN]; unfold roundN; rw [if_pos (Or.inr ⟨h2, h3⟩)]; omega
      have t4 : (((q : Int) * 1000000 + (m : Int)) % 2 == 1) = true := by rw [beq_iff_eq]; omega
      clear hN kq h2 h3
      go_enter Tryz.func30, Tryz.ntmps30
      go_wp2
      go_ret
      refine ⟨⟨q * 1000000 + (m + 1), ?_, by omega, Or.inl HP.out.symm⟩, rfl⟩
      exact ret_int (by omega)
    · have HP : Hid (N = q * 1000000 + m) := by rw [Hid, hN]; unfold roundN; rw [if_neg (by omega)]
      have t4 : (((q : Int) * 1000000 + (m : Int)) % 2 == 1) = false := beq_eq_false_iff_ne.2 (by omega)
      clear hN kq h2 h3
      go_enter Tryz.func30, Tryz.ntmps30
      go_wp2
      go_ret
      refine ⟨⟨q * 1000000 + m, ?_, by omega, Or.inl HP.out.symm⟩, rfl⟩
      exact ret_int (by omega)
  · have HP : Hid (N = q * 1000000 + m) := by rw [Hid, hN]; unfold roundN; rw [if_neg (by omega)]
    have t3 : (2 * (r : Int) == (c : Int)) = false := beq_eq_false_iff_ne.2 (by omega)
    clear hN kq h2
    go_enter Tryz.func30, Tryz.ntmps30
    go_wp2
    go_ret
    refine ⟨⟨q * 1000000 + m, ?_, by omega, Or.inl HP.out.symm⟩, rfl⟩
    exact ret_int (by omega)

set_option maxRecDepth 100000 in
set_option maxHeartbeats 2000000 in
theorem spec_mulDiv (a b c : Int) (w : World) :
    Calls Tryz.prog 16 #[.int .i64 a, .int .i64 b, .int .i64 c] w fun e w' => e = .returned (moneyV (mulDivB a b c)) ∧ Below w.heap.size w w' := by
  cases ha : rightB a
  · have HR : Hid (mulDivB a b c = (0, 1)) := by simp [Hid, mulDivB, okMD, ha]
    have H : Hid (rightB a = false) := ha
    clear ha
    go_enter Tryz.func16, Tryz.ntmps16
    go_wp2_with fail
    refine (spec_right _ _).mono ?_
    rintro e w1 ⟨rfl, rfl⟩
    rw [H.out]
    go_wp2_with fail
    refine bodyPost_ret (v := moneyV (mulDivB a b c)) ?_ rfl ⟨rfl, ?_⟩
    · rw [HR.out]
      simp [results, Tryz.results16, go_sem, moneyV]
    · repeat (first | exact Below.refl _ _ | refine Below.setCell ?_ (by exact Nat.le_refl _) _ | refine Below.alloc ?_ (by simp) _)
  have H : Hid (rightB a = true) := ha
  by_cases k0 : 0 ≤ b
  case neg =>
    have HR : Hid (mulDivB a b c = (0, 1)) := by simp [Hid, mulDivB, okMD, k0]
    have t0 : decide (b < 0) = true := by simp; omega
    clear ha
    go_enter Tryz.func16, Tryz.ntmps16
    go_wp2_with fail
    refine (spec_right _ _).mono ?_
    rintro e w1 ⟨rfl, rfl⟩
    rw [H.out]
    go_wp2_with fail
    refine bodyPost_ret (v := moneyV (mulDivB a b c)) ?_ rfl ⟨rfl, ?_⟩
    · rw [HR.out]
      simp [results, Tryz.results16, go_sem, moneyV]
    · repeat (first | exact Below.refl _ _ | refine Below.setCell ?_ (by exact Nat.le_refl _) _ | refine Below.alloc ?_ (by simp) _)
  have t0 : decide (b < 0) = false := by simp; omega
  by_cases k1 : b ≤ 10000000000
  case neg =>
    have HR : Hid (mulDivB a b c = (0, 1)) := by simp [Hid, mulDivB, okMD, k1]
    have t1 : decide (10000000000 < b) = true := by simp; omega
    clear ha
    go_enter Tryz.func16, Tryz.ntmps16
    go_wp2_with fail
    refine (spec_right _ _).mono ?_
    rintro e w1 ⟨rfl, rfl⟩
    rw [H.out]
    go_wp2_with fail
    refine bodyPost_ret (v := moneyV (mulDivB a b c)) ?_ rfl ⟨rfl, ?_⟩
    · rw [HR.out]
      simp [results, Tryz.results16, go_sem, moneyV]
    · repeat (first | exact Below.refl _ _ | refine Below.setCell ?_ (by exact Nat.le_refl _) _ | refine Below.alloc ?_ (by simp) _)
  have t1 : decide (10000000000 < b) = false := by simp; omega
  by_cases k2 : 1 ≤ c
  case neg =>
    have HR : Hid (mulDivB a b c = (0, 1)) := by simp [Hid, mulDivB, okMD, k2]
    have t2 : decide (c < 1) = true := by simp; omega
    clear ha
    go_enter Tryz.func16, Tryz.ntmps16
    go_wp2_with fail
    refine (spec_right _ _).mono ?_
    rintro e w1 ⟨rfl, rfl⟩
    rw [H.out]
    go_wp2_with fail
    refine bodyPost_ret (v := moneyV (mulDivB a b c)) ?_ rfl ⟨rfl, ?_⟩
    · rw [HR.out]
      simp [results, Tryz.results16, go_sem, moneyV]
    · repeat (first | exact Below.refl _ _ | refine Below.setCell ?_ (by exact Nat.le_refl _) _ | refine Below.alloc ?_ (by simp) _)
  have t2 : decide (c < 1) = false := by simp; omega
  by_cases k3 : c ≤ 1000000000
  case neg =>
    have HR : Hid (mulDivB a b c = (0, 1)) := by simp [Hid, mulDivB, okMD, k3]
    have t3 : decide (1000000000 < c) = true := by simp; omega
    clear ha
    go_enter Tryz.func16, Tryz.ntmps16
    go_wp2_with fail
    refine (spec_right _ _).mono ?_
    rintro e w1 ⟨rfl, rfl⟩
    rw [H.out]
    go_wp2_with fail
    refine bodyPost_ret (v := moneyV (mulDivB a b c)) ?_ rfl ⟨rfl, ?_⟩
    · rw [HR.out]
      simp [results, Tryz.results16, go_sem, moneyV]
    · repeat (first | exact Below.refl _ _ | refine Below.setCell ?_ (by exact Nat.le_refl _) _ | refine Below.alloc ?_ (by simp) _)
  have t3 : decide (1000000000 < c) = false := by simp; omega
  have hT : mulDivB a b c = outB (signZ a (nearN (a.natAbs * b.toNat) c.toNat)) := by simp [mulDivB, okMD, ha, k0, k1, k2, k3]
  obtain ⟨a0, a1⟩ := (rightB_iff a).1 ha
  clear ha
  obtain ⟨b', rfl⟩ : ∃ b' : Nat, b = b' := ⟨b.toNat, by omega⟩
  obtain ⟨c', rfl⟩ : ∃ c' : Nat, c = c' := ⟨c.toNat, by omega⟩
  rw [Int.toNat_natCast, Int.toNat_natCast] at hT
  have HT : Hid (mulDivB a b' c' = outB (signZ a (nearN (a.natAbs * b') c'))) := hT
  clear hT
  by_cases hsa : a < 0
  · have ta : decide (a < 0) = true := by simp; omega
    go_enter Tryz.func16, Tryz.ntmps16
    go_wp2_with fail
    refine (spec_right _ _).mono ?_
    rintro e w1 ⟨rfl, rfl⟩
    rw [H.out]
    go_wp2_with fail
    refine (spec_abs _ _ (by omega) (by omega)).mono ?_
    rintro e w1 ⟨rfl, rfl⟩
    go_wp2_with fail
    refine (spec_near a.natAbs b' c' _ (by omega) (by omega) (by omega) (by omega)).mono ?_
    rintro e w1 ⟨⟨n, rfl, hn, hor⟩, rfl⟩
    have HO : Hid (mulDivB a b' c' = outB (signZ a n)) := by
      rw [Hid, HT.out]
      rcases hor with h | ⟨h, h'⟩
      · rw [h]
      · rw [outB_sign_no a _ h', outB_sign_no a _ (by omega)]
    have HS : Hid (signZ a n = -(n : Int)) := by unfold Hid signZ; rw [if_pos (by omega)]
    clear hor
    go_wp2_with fail
    refine (spec_out _ _).mono ?_
    rintro e w2 ⟨rfl, hb⟩
    simp only [moneyV]
    obtain ⟨hc, hf⟩ := bcell hb
    have hz : w.heap.size < w2.heap.size := by have := hb.size; simp at this; omega
    go_wp2_with fail
    refine bodyPost_ret (v := moneyV (mulDivB a b' c')) ?_ rfl ⟨rfl, ?_⟩
    · rw [HO.out, HS.out]
      simp [results, Tryz.results16, go_sem, hc, moneyV]
    · have hbb : Below w.heap.size w w2 := ((Below.refl w.heap.size w).alloc (Nat.le_refl _) _).trans (hb.mono (by simp))
      repeat (first | exact hbb | refine Below.setCell ?_ (by exact Nat.le_refl _) _ | refine Below.alloc ?_ (by simp [World.setCell]; omega) _)
  · have ta : decide (a < 0) = false := by simp; omega
    go_enter Tryz.func16, Tryz.ntmps16
    go_wp2_with fail
    refine (spec_right _ _).mono ?_
    rintro e w1 ⟨rfl, rfl⟩
    rw [H.out]
    go_wp2_with fail
    refine (spec_abs _ _ (by omega) (by omega)).mono ?_
    rintro e w1 ⟨rfl, rfl⟩
    go_wp2_with fail
    refine (spec_near a.natAbs b' c' _ (by omega) (by omega) (by omega) (by omega)).mono ?_
    rintro e w1 ⟨⟨n, rfl, hn, hor⟩, rfl⟩
    have HO : Hid (mulDivB a b' c' = outB (signZ a n)) := by
      rw [Hid, HT.out]
      rcases hor with h | ⟨h, h'⟩
      · rw [h]
      · rw [outB_sign_no a _ h', outB_sign_no a _ (by omega)]
    have HS : Hid (signZ a n = (n : Int)) := by unfold Hid signZ; rw [if_neg (by omega)]
    clear hor
    go_wp2_with fail
    refine (spec_out _ _).mono ?_
    rintro e w2 ⟨rfl, hb⟩
    simp only [moneyV]
    obtain ⟨hc, hf⟩ := bcell hb
    have hz : w.heap.size < w2.heap.size := by have := hb.size; simp at this; omega
    go_wp2_with fail
    refine bodyPost_ret (v := moneyV (mulDivB a b' c')) ?_ rfl ⟨rfl, ?_⟩
    · rw [HO.out, HS.out]
      simp [results, Tryz.results16, go_sem, hc, moneyV]
    · have hbb : Below w.heap.size w w2 := ((Below.refl w.heap.size w).alloc (Nat.le_refl _) _).trans (hb.mono (by simp))
      repeat (first | exact hbb | refine Below.setCell ?_ (by exact Nat.le_refl _) _ | refine Below.alloc ?_ (by simp [World.setCell]; omega) _)


end Go.Proofs.YtnefcldjigndgaaGreatDoor
