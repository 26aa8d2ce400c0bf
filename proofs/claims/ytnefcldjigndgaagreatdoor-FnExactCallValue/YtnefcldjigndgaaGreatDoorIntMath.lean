/- What the law FnInterest asks of Interest's answers, without a program. -/
import Derived.Test.YtnefcldjigndgaaGreatDoorMdMath
import Derived.Test.YtnefcldjigndgaaGreatDoorInt
import Derived.Test.YtnefcldjigndgaaGreatDoorDayFacts
namespace Go.Proofs.YtnefcldjigndgaaGreatDoor

theorem mulDivB_mono_a (a b c : Int) (h : okMD a b c = true) (h' : okMD (a + 1) b c = true) (ha : 0 ≤ a) (h0 : (mulDivB a b c).2 = 0) (h1 : (mulDivB (a + 1) b c).2 = 0) : (mulDivB a b c).1 ≤ (mulDivB (a + 1) b c).1 := by
  have hm := near_mono (a.natAbs * b.toNat) ((a + 1).natAbs * b.toNat) c.toNat (Nat.mul_le_mul_right _ (by omega))
  rw [mulDivB_eq a b c h] at h0 ⊢
  rw [mulDivB_eq (a + 1) b c h'] at h1 ⊢
  rw [outB_fst _ h0, outB_fst _ h1]
  unfold signZ
  rw [if_neg (by omega), if_neg (by omega)]
  omega
theorem near_nil (c : Nat) (hc : 0 < c) : nearN 0 c = 0 := by
  unfold nearN roundN
  rw [Nat.zero_div, Nat.zero_mod, if_neg (by omega)]
theorem mulDivB_nil (a b c : Int) (h : okMD a b c = true) (hz : a.natAbs * b.toNat = 0) : mulDivB a b c = (0, 0) := by
  have hc : 1 ≤ c := by simp [okMD] at h; omega
  rw [mulDivB_eq a b c h, hz, near_nil _ (by omega)]
  have : signZ a 0 = 0 := by unfold signZ; split <;> rfl
  rw [this]; rfl
theorem year_ok (basis : Int) : 1 ≤ 1000000 * yearI basis ∧ 1000000 * yearI basis ≤ 1000000000 := by unfold yearI; split <;> omega

theorem interest_parts {n rate basis a b N : Int} (h : interestB n rate basis a b = (N, 0)) :
    0 ≤ n ∧ n ≤ 1000000000000 ∧ rateB rate = true ∧ (spanB basis a b).2 = 0 ∧ okMD n (rate * (spanB basis a b).1) (1000000 * yearI basis) = true ∧ mulDivB n (rate * (spanB basis a b).1) (1000000 * yearI basis) = (N, 0) := by
  unfold interestB at h
  split at h
  · rename_i hc
    split at h
    · rename_i hs
      refine ⟨hc.1, hc.2.1, hc.2.2, hs, ?_, h⟩
      cases hk : okMD n (rate * (spanB basis a b).1) (1000000 * yearI basis)
      · unfold mulDivB at h; rw [hk] at h; simp at h
      · rfl
    · rename_i hs
      have := congrArg Prod.snd h
      exact absurd this hs
  · simp at h
theorem interest_none {n rate basis a b N : Int} (h : interestB n rate basis a b = (N, 0)) : interestB 0 rate basis a b = (0, 0) := by
  obtain ⟨n0, n1, hr, hs, hk, _⟩ := interest_parts h
  have hb : 0 ≤ rate * (spanB basis a b).1 ∧ rate * (spanB basis a b).1 ≤ 10000000000 := by simp [okMD] at hk; omega
  have hy := year_ok basis
  have hk0 : okMD 0 (rate * (spanB basis a b).1) (1000000 * yearI basis) = true := by
    have : rightB 0 = true := by decide
    simp [okMD, this]; omega
  unfold interestB
  rw [if_pos ⟨by omega, by omega, hr⟩, if_pos hs]
  exact mulDivB_nil _ _ _ hk0 (by simp)
theorem interest_nodays {n rate basis a b N : Int} (h : interestB n rate basis a b = (N, 0)) : interestB n rate basis a a = (0, 0) := by
  obtain ⟨n0, n1, hr, hs, hk, _⟩ := interest_parts h
  have hy := year_ok basis
  have hrb : rightB n = true := (rightB_iff n).2 (by omega)
  have hk0 : okMD n (rate * 0) (1000000 * yearI basis) = true := by
    simp [okMD, hrb]; omega
  unfold interestB
  rw [span_none hs, if_pos ⟨n0, n1, hr⟩]
  show (if (0 : Int) = 0 then _ else _) = _
  rw [if_pos rfl]
  exact mulDivB_nil _ _ _ hk0 (by simp)
theorem interest_more {n rate basis a b N M : Int} (h : interestB n rate basis a b = (N, 0)) (h' : interestB (n + 1) rate basis a b = (M, 0)) : N ≤ M := by
  obtain ⟨n0, n1, hr, hs, hk, e⟩ := interest_parts h
  obtain ⟨_, _, _, _, hk', e'⟩ := interest_parts h'
  have := mulDivB_mono_a _ _ _ hk hk' n0 (by rw [e]) (by rw [e'])
  rw [e, e'] at this
  exact this
end Go.Proofs.YtnefcldjigndgaaGreatDoor
