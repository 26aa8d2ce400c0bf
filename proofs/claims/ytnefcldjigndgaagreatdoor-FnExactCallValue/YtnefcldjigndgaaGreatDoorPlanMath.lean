/- Plans without a program (a draft for chapter 5): what is left behind due days, that it grows with what was left and falls with what is paid, and how great it can become. -/
import Derived.Test.YtnefcldjigndgaaGreatDoorIntMath
namespace Go.Proofs.YtnefcldjigndgaaGreatDoor

/-- Two days a month apart, as DayAdd has them: at most 31 days, by Basis30E at most 32. -/
theorem due_gap {day n N M : Int} (h : dayAddB day n = (N, 0)) (h' : dayAddB day (n + 1) = (M, 0)) : N < M ∧ M ≤ N + 31 ∧ evenB (dateB M) - evenB (dateB N) ≤ 32 := by
  have hlt := month_later h h'
  obtain ⟨hr, n0, n1, k0, k1, hI⟩ := dayAdd_parts h
  obtain ⟨_, _, _, k0', k1', hJ⟩ := dayAdd_parts h'
  obtain ⟨d0, d1⟩ := (dayRB_iff day).1 hr
  have hD := dateB_is d0 d1
  have e31 : (dateB day).2.2 ≤ 31 := by have := hD.d1; have := len_le (dateB day).1 (dateB day).2.1; omega
  have e1' := hD.d0
  have hk : addKB day (n + 1) = addKB day n + 1 := by unfold addKB; omega
  rw [hk] at hJ k1'
  have hl1 := len_ge (2000 + addKB day n / 12) (addKB day n % 12 + 1)
  have hl1' := len_le (2000 + addKB day n / 12) (addKB day n % 12 + 1)
  have hl2 := len_ge (2000 + (addKB day n + 1) / 12) ((addKB day n + 1) % 12 + 1)
  have hl2' := len_le (2000 + (addKB day n + 1) / 12) ((addKB day n + 1) % 12 + 1)
  rw [dateB_eq hI, dateB_eq hJ]
  have e := hI.eq
  have e' := hJ.eq
  have cs := cum_step (2000 + addKB day n / 12) hI.m0 hI.m1
  refine ⟨hlt, ?_, ?_⟩
  · rcases (by omega : addKB day n % 12 < 11 ∨ addKB day n % 12 = 11) with hm | hm
    · have a1 : (addKB day n + 1) / 12 = addKB day n / 12 := by omega
      have a2 : (addKB day n + 1) % 12 = addKB day n % 12 + 1 := by omega
      rw [a1, a2] at e' hl2 hl2'
      omega
    · have a1 : 2000 + (addKB day n + 1) / 12 = 2000 + addKB day n / 12 + 1 := by omega
      have a2 : (addKB day n + 1) % 12 + 1 = 1 := by omega
      rw [a1, a2] at e' hl2 hl2'
      rw [head_step (by omega), cum_one] at e'
      rw [hm] at e cs hl1 hl1'
      have cs' : cumI (2000 + addKB day n / 12) 13 = cumI (2000 + addKB day n / 12) 12 + lenI (2000 + addKB day n / 12) 12 := cs
      have ee : (11 : Int) + 1 = 12 := rfl
      rw [ee] at e hl1 hl1'
      omega
  · simp only [evenB]
    omega

theorem near_le (p c : Nat) : nearN p c ≤ p / c + 1 := (roundN_ge (p / c) (p % c) c).2
/-- Interest within a plan: it is not refused, and is at most a 22nd and one of what it is taken of. -/
theorem plan_interest {a rate basis x y : Int} (a0 : 0 ≤ a) (a1 : a ≤ 500000000000) (r0 : 0 ≤ rate) (r1 : rate ≤ 500000) (hs : (spanB basis x y).2 = 0) (hx : (spanB basis x y).1 ≤ 32) :
    ∃ N : Int, interestB a rate basis x y = (N, 0) ∧ N = nearN (a.natAbs * (rate * (spanB basis x y).1).toNat) (1000000 * yearI basis).toNat ∧ 0 ≤ N ∧ N ≤ a / 22 + 1 := by
  have h0 := (span_le hs).1
  have hp : 0 ≤ rate * (spanB basis x y).1 ∧ rate * (spanB basis x y).1 ≤ 16000000 := by
    refine ⟨Int.mul_nonneg r0 h0, ?_⟩
    have := Int.mul_le_mul r1 hx h0 (by omega)
    omega
  have hy : 360000000 ≤ 1000000 * yearI basis ∧ 1000000 * yearI basis ≤ 365000000 := by unfold yearI; split <;> omega
  have hrb : rightB a = true := (rightB_iff a).2 (by omega)
  have hk : okMD a (rate * (spanB basis x y).1) (1000000 * yearI basis) = true := by simp [okMD, hrb]; omega
  have hr : rateB rate = true := by simp [rateB]; omega
  have e : interestB a rate basis x y = mulDivB a (rate * (spanB basis x y).1) (1000000 * yearI basis) := by
    unfold interestB
    rw [if_pos ⟨a0, by omega, hr⟩, if_pos hs]
  rw [e, mulDivB_eq _ _ _ hk]
  generalize rate * (spanB basis x y).1 = P at *
  generalize 1000000 * yearI basis = C at *
  obtain ⟨A, rfl⟩ : ∃ A : Nat, a = A := ⟨a.toNat, by omega⟩
  obtain ⟨p, rfl⟩ : ∃ p : Nat, P = p := ⟨P.toNat, by omega⟩
  obtain ⟨c, rfl⟩ : ∃ c : Nat, C = c := ⟨C.toNat, by omega⟩
  simp only [Int.natAbs_natCast, Int.toNat_natCast] at *
  have hn := near_le (A * p) c
  have hd : A * p / c ≤ A / 22 := by
    have h1 : A * p ≤ A * 16000000 := Nat.mul_le_mul_left _ (by omega)
    have h2 : A * p / c ≤ A * 16000000 / 360000000 := Nat.le_trans (Nat.div_le_div_right h1) (Nat.div_le_div_left (by omega) (by omega))
    omega
  have hsg : signZ (A : Int) (nearN (A * p) c) = (nearN (A * p) c : Int) := by unfold signZ; rw [if_neg (by omega)]
  rw [hsg]
  exact ⟨_, outB_ok (by omega) (by omega), rfl, by omega, by omega⟩

/-- What is left behind a due day: of what was left, the interest and the pay. -/
def payI (left int pay : Int) : Int := left + int - min pay (left + int)
theorem payI_nonneg (left int pay : Int) : 0 ≤ payI left int pay := by unfold payI; omega
theorem payI_le {left int pay : Int} (h : 0 ≤ left + int) (hp : 0 ≤ pay) : payI left int pay ≤ left + int := by unfold payI; omega
theorem payI_mono {l l' i i' p p' : Int} (h : l + i ≤ l' + i') (hp : p' ≤ p) : payI l i p ≤ payI l' i' p' := by unfold payI; omega

/-- What is left behind n due days, where 'int k left' is the interest of due day k + 1. -/
def leftN (int : Nat → Int → Int) (pay : Int) : Nat → Int → Int
  | 0, left => left
  | n + 1, left => payI (leftN int pay n left) (int n (leftN int pay n left)) pay
theorem leftN_mono {int int' : Nat → Int → Int} {p p' : Int} (hp : p' ≤ p) (hi : ∀ k a b, a ≤ b → int k a ≤ int' k b) : ∀ n a b, a ≤ b → leftN int p n a ≤ leftN int' p' n b
  | 0, _, _, h => h
  | n + 1, a, b, h => by
    have h1 := leftN_mono hp hi n a b h
    exact payI_mono (by have := hi n _ _ h1; omega) hp

/-- The least number up to n at which z is true, where z stays true from one on. -/
def leastN (z : Nat → Bool) : Nat → Nat
  | 0 => 0
  | n + 1 => if z n then leastN z n else n + 1
theorem leastN_le (z : Nat → Bool) : ∀ n, leastN z n ≤ n
  | 0 => Nat.le_refl _
  | n + 1 => by
    unfold leastN
    split
    · exact Nat.le_succ_of_le (leastN_le z n)
    · exact Nat.le_refl _
theorem leastN_true (z : Nat → Bool) : ∀ n, z n = true → z (leastN z n) = true
  | 0, h => h
  | n + 1, h => by
    unfold leastN
    split
    · rename_i hz; exact leastN_true z n hz
    · exact h
theorem leastN_false (z : Nat → Bool) (hm : ∀ a b, a ≤ b → z a = true → z b = true) : ∀ n k, k < leastN z n → z k = false
  | 0, k, h => by simp [leastN] at h
  | n + 1, k, h => by
    unfold leastN at h
    split at h
    · exact leastN_false z hm n k h
    · rename_i hz
      cases hk : z k
      · rfl
      · exact absurd (hm k n (by omega) hk) hz
/-- One step of the search by halves keeps the least number between its ends. -/
theorem least_half (z : Nat → Bool) (hm : ∀ a b, a ≤ b → z a = true → z b = true) (n mid : Nat) (hn : z n = true) : (z mid = true → leastN z n ≤ mid) ∧ (z mid = false → mid + 1 ≤ leastN z n) := by
  constructor
  · intro h
    rcases Nat.lt_or_ge mid (leastN z n) with hl | hl
    · rw [leastN_false z hm n mid hl] at h; cases h
    · exact hl
  · intro h
    rcases Nat.lt_or_ge mid (leastN z n) with hl | hl
    · exact hl
    · rw [hm _ _ hl (leastN_true z n hn)] at h; cases h

/-- A bound of what can be left behind n due days. -/
def topN : Nat → Nat
  | 0 => 10000000000
  | n + 1 => topN n + topN n / 22 + 1
theorem topN_le : topN 60 ≤ 1000000000000 := by decide +kernel
theorem topN_step (n : Nat) : topN n ≤ topN (n + 1) := by
  show topN n ≤ topN n + topN n / 22 + 1
  omega
theorem topN_mono : ∀ (n k : Nat), topN n ≤ topN (n + k)
  | _, 0 => Nat.le_refl _
  | n, k + 1 => Nat.le_trans (topN_mono n k) (topN_step (n + k))
end Go.Proofs.YtnefcldjigndgaaGreatDoor
