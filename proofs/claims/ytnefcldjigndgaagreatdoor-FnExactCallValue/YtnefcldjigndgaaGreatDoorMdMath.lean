/- Plain facts on shares of money: the other sign, a divisor as factor, a greater factor, how near. -/
import Derived.Test.YtnefcldjigndgaaGreatDoorMdLaw
namespace Go.Proofs.YtnefcldjigndgaaGreatDoor

theorem right_neg (a : Int) : rightB (-a) = rightB a := by
  rw [Bool.eq_iff_iff, rightB_iff, rightB_iff]; omega
theorem okMD_neg (a b c : Int) : okMD (-a) b c = okMD a b c := by unfold okMD; rw [right_neg]
theorem near_zero (c : Nat) (hc : 0 < c) : nearN 0 c = 0 := by
  unfold nearN roundN
  rw [Nat.zero_div, Nat.zero_mod, if_neg (by omega)]
theorem outB_neg (z : Int) : outB (-z) = (-(outB z).1, (outB z).2) := by
  unfold outB
  rw [right_neg]
  split <;> simp
theorem mulDivB_neg (a b c : Int) (h : okMD a b c = true) : mulDivB (-a) b c = (-(mulDivB a b c).1, (mulDivB a b c).2) := by
  have hc : 1 ≤ c := by simp [okMD] at h; omega
  unfold mulDivB
  rw [okMD_neg, h, if_pos rfl, if_pos rfl, Int.natAbs_neg, ← outB_neg]
  congr 1
  unfold signZ
  by_cases h0 : a = 0
  · subst h0
    simp [near_zero c.toNat (by omega)]
  · by_cases h1 : a < 0
    · rw [if_neg (by omega), if_pos h1]; omega
    · rw [if_pos (by omega), if_neg h1]
theorem mulDivB_self (a b c : Int) (h : okMD a b c = true) : mulDivB a c c = (a, 0) := by
  have hb : rightB a = true ∧ 1 ≤ c ∧ c ≤ 1000000000 := by simp [okMD] at h; exact ⟨h.1, by omega, by omega⟩
  obtain ⟨hr, h1, h2⟩ := hb
  have hk : okMD a c c = true := by simp [okMD, hr]; omega
  have hn : nearN (a.natAbs * c.toNat) c.toNat = a.natAbs := by
    unfold nearN roundN
    rw [Nat.mul_div_cancel _ (by omega), Nat.mul_mod_left, if_neg (by omega)]
  unfold mulDivB
  rw [hk, if_pos rfl, hn]
  have hs : signZ a a.natAbs = a := by unfold signZ; split <;> omega
  rw [hs]
  have := (rightB_iff a).1 hr
  exact outB_ok this.1 this.2
theorem near_mono (p p' c : Nat) (h : p ≤ p') : nearN p c ≤ nearN p' c := by
  unfold nearN
  have hq : p / c ≤ p' / c := Nat.div_le_div_right h
  rcases Nat.lt_or_ge (p / c) (p' / c) with hl | hg
  · have h1 := (roundN_ge (p / c) (p % c) c).2
    have h2 := (roundN_ge (p' / c) (p' % c) c).1
    omega
  · have he : p / c = p' / c := by omega
    have m1 := Nat.div_add_mod p c
    have m2 := Nat.div_add_mod p' c
    rw [he] at m1
    have hr : p % c ≤ p' % c := by omega
    rw [he]
    unfold roundN
    by_cases h1 : c < 2 * (p % c) ∨ 2 * (p % c) = c ∧ p' / c % 2 = 1
    · rw [if_pos h1, if_pos (by omega)]; exact Nat.le_refl _
    · rw [if_neg h1]; split <;> omega
theorem outB_fst (z : Int) (h : (outB z).2 = 0) : (outB z).1 = z := by
  unfold outB at *
  cases r : rightB z
  · rw [r] at h; simp at h
  · rfl
theorem mulDivB_eq (a b c : Int) (h : okMD a b c = true) : mulDivB a b c = outB (signZ a (nearN (a.natAbs * b.toNat) c.toNat)) := by unfold mulDivB; rw [h, if_pos rfl]
theorem mulDivB_mono (a b c : Int) (h : okMD a b c = true) (ha : 0 ≤ a) (hb : b < 10000000000) (h0 : (mulDivB a b c).2 = 0) (h1 : (mulDivB a (b + 1) c).2 = 0) : (mulDivB a b c).1 ≤ (mulDivB a (b + 1) c).1 := by
  have hx : rightB a = true ∧ 0 ≤ b ∧ 1 ≤ c ∧ c ≤ 1000000000 := by simp [okMD] at h; exact ⟨h.1, by omega, by omega, by omega⟩
  obtain ⟨hr, hb0, hc1, hc2⟩ := hx
  have hk : okMD a (b + 1) c = true := by simp [okMD, hr]; omega
  have hm := near_mono (a.natAbs * b.toNat) (a.natAbs * (b + 1).toNat) c.toNat (Nat.mul_le_mul_left _ (by omega))
  rw [mulDivB_eq a b c h] at h0 ⊢
  rw [mulDivB_eq a (b + 1) c hk] at h1 ⊢
  rw [outB_fst _ h0, outB_fst _ h1]
  unfold signZ
  rw [if_neg (by omega), if_neg (by omega)]
  omega
/-- How near: twice the difference is at most the divisor, and just it for an even number alone. -/
theorem near_off (p c : Nat) (hc : 0 < c) : 2 * (p : Int) - 2 * ((nearN p c * c : Nat) : Int) ≤ c ∧ -(c : Int) ≤ 2 * (p : Int) - 2 * ((nearN p c * c : Nat) : Int) ∧ (2 * (p : Int) - 2 * ((nearN p c * c : Nat) : Int) = c ∨ 2 * (p : Int) - 2 * ((nearN p c * c : Nat) : Int) = -(c : Int) → nearN p c % 2 = 0) := by
  have hm : p / c * c + p % c = p := by rw [Nat.mul_comm]; exact Nat.div_add_mod p c
  have hr := Nat.mod_lt p hc
  unfold nearN roundN
  split
  · rename_i h
    have e : (p / c + 1) * c = p / c * c + c := Nat.succ_mul _ _
    rw [e]
    generalize p / c * c = x at *
    omega
  · rename_i h
    generalize p / c * c = x at *
    omega
theorem near_off_small (p c : Nat) (hp : p ≤ 1000000000000) (hc0 : 0 < c) (hc : c ≤ 1000000000) : nearN p c * c ≤ 1001000000000 := by
  have hm : p / c * c + p % c = p := by rw [Nat.mul_comm]; exact Nat.div_add_mod p c
  have h := (roundN_ge (p / c) (p % c) c).2
  have := Nat.mul_le_mul_right c h
  rw [Nat.succ_mul] at this
  unfold nearN
  generalize roundN (p / c) (p % c) c * c = z at *
  generalize p / c * c = x at *
  omega
theorem signZ_mul (a : Int) (m c : Nat) : signZ a m * (c : Int) = if a < 0 then -((m * c : Nat) : Int) else ((m * c : Nat) : Int) := by
  unfold signZ
  split
  · rw [Int.neg_mul, Int.natCast_mul]
  · rw [Int.natCast_mul]
theorem mulDivB_off (a b c : Int) (h : okMD a b c = true) (h0 : (mulDivB a b c).2 = 0) (ha0 : -1000000 ≤ a) (ha1 : a ≤ 1000000) (hb1 : b ≤ 1000000) :
    ∃ P Q : Int, a * b = P ∧ (mulDivB a b c).1 * c = Q ∧ -1000000000000 ≤ P ∧ P ≤ 1000000000000 ∧ -1001000000000 ≤ Q ∧ Q ≤ 1001000000000 ∧ 2 * (P - Q) ≤ c ∧ -c ≤ 2 * (P - Q) ∧ (2 * (P - Q) = c ∨ 2 * (P - Q) = -c → (mulDivB a b c).1 % 2 = 0) := by
  have hx : 0 ≤ b ∧ 1 ≤ c ∧ c ≤ 1000000000 := by simp [okMD] at h; omega
  obtain ⟨hb0, hc1, hc2⟩ := hx
  obtain ⟨b', rfl⟩ : ∃ b' : Nat, b = b' := ⟨b.toNat, by omega⟩
  obtain ⟨c', rfl⟩ : ∃ c' : Nat, c = c' := ⟨c.toNat, by omega⟩
  have hp : a.natAbs * b' ≤ 1000000000000 := by
    have := Nat.mul_le_mul (show a.natAbs ≤ 1000000 by omega) (show b' ≤ 1000000 by omega)
    omega
  have hab : a * (b' : Int) = if a < 0 then -((a.natAbs * b' : Nat) : Int) else ((a.natAbs * b' : Nat) : Int) := by
    split
    · have := @mul_np a (b' : Int) (by omega) (by omega)
      rw [Int.natAbs_natCast] at this; exact this
    · have := @mul_pp a (b' : Int) (by omega) (by omega)
      rw [Int.natAbs_natCast] at this; exact this
  unfold mulDivB at *
  rw [h, if_pos rfl] at *
  rw [Int.toNat_natCast, Int.toNat_natCast] at *
  generalize a.natAbs * b' = p at *
  have o1 := near_off p c' (by omega)
  have o2 := near_off_small p c' hp (by omega) (by omega)
  have sm := signZ_mul a (nearN p c') c'
  have e1 : (outB (signZ a (nearN p c'))).1 = signZ a (nearN p c') := by
    unfold outB at *
    cases r1 : rightB (signZ a (nearN p c'))
    · rw [r1] at h0; simp at h0
    · rfl
  rw [e1]
  have sp : signZ a (nearN p c') % 2 = 0 ↔ nearN p c' % 2 = 0 := by unfold signZ; split <;> omega
  rw [sp, sm, hab]
  refine ⟨_, _, rfl, rfl, ?_⟩
  split <;> omega
end Go.Proofs.YtnefcldjigndgaaGreatDoor
