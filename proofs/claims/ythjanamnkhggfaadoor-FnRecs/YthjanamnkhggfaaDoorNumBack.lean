/- Plain facts: the bytes of which a number is got are the number's own bytes. -/
import Derived.Test.YthjanamnkhggfaaDoorNumMath
namespace Go.Proofs.YthjanamnkhggfaaDoor.Draw
open Go.RowKit

theorem byteAt_lt (s : ByteArray) (i : Nat) : byteAt s i < 256 := UInt8.toNat_lt _
theorem stand_one {s : ByteArray} {p : Nat} : StandAt s p [UInt8.ofNat (byteAt s p)] := fun j hj => by
  obtain rfl : j = 0 := by simpa using hj
  simp [ofNat_nat _ (byteAt_lt s p)]
theorem stand_cons {s : ByteArray} {p c : Nat} {l : List UInt8} (hc : byteAt s p = c) (hl : StandAt s (p + 1) l) : StandAt s p (UInt8.ofNat c :: l) := fun j hj => by
  cases j with
  | zero => simp [← hc, ofNat_nat _ (byteAt_lt s p)]
  | succ j =>
    have := hl j (by simp at hj; omega)
    rw [show p + (j + 1) = p + 1 + j by omega, this]
    simp
theorem get_back (s : ByteArray) (a : Nat) : ∀ (f i u : Nat) (N P : Int), f + i = 9 → getF s a (f + 1) i u = (N, P, 0) →
    ∃ v, StandAt s (a + i) (encF (f + 1) v) ∧ P = (a : Int) + i + (encF (f + 1) v).length ∧ a + i + (encF (f + 1) v).length ≤ s.size ∧ N = unfZ (u + v * 2 ^ (7 * i)) ∧ (0 < i → v ≠ 0)
  | f, i, u, N, P, hfi, h => by
    rw [getF] at h
    by_cases h1 : s.size ≤ a + i
    · rw [if_pos h1] at h; simp at h
    rw [if_neg h1] at h
    have hb := byteAt_lt s (a + i)
    by_cases h2 : i = 9 ∧ 1 < byteAt s (a + i)
    · rw [if_pos h2] at h; simp at h
    rw [if_neg h2] at h
    by_cases h3 : byteAt s (a + i) < 128
    · rw [if_pos h3] at h
      by_cases h4 : byteAt s (a + i) = 0 ∧ 0 < i
      · rw [if_pos h4] at h; simp at h
      rw [if_neg h4] at h
      simp only [Prod.mk.injEq, and_true] at h
      obtain ⟨e1, e2⟩ := h
      have hm : byteAt s (a + i) % 128 = byteAt s (a + i) := Nat.mod_eq_of_lt h3
      rw [hm] at e1
      refine ⟨byteAt s (a + i), ?_, ?_, ?_, e1.symm, fun h0 e => h4 ⟨e, h0⟩⟩
      · rw [encF_small f _ h3]; exact stand_one
      · rw [encF_small f _ h3, ← e2]; simp
      · rw [encF_small f _ h3]; simp; omega
    · rw [if_neg h3] at h
      cases f with
      | zero => simp [getF] at h
      | succ g =>
        obtain ⟨v, hv1, hv2, hv3, hv4, hv5⟩ := get_back s a g (i + 1) _ N P (by omega) h
        have hv0 : v ≠ 0 := hv5 (by omega)
        have e7 : 2 ^ (7 * (i + 1)) = 2 ^ (7 * i) * 128 := by rw [Nat.mul_add, Nat.pow_add]
        obtain ⟨c, hc⟩ : ∃ c, byteAt s (a + i) = c := ⟨_, rfl⟩
        rw [hc] at h3 hb hv4
        have hbig : ¬ (c % 128 + 128 * v) < 128 := by omega
        have hmod : (c % 128 + 128 * v) % 128 + 128 = c := by omega
        have hdiv : (c % 128 + 128 * v) / 128 = v := by omega
        refine ⟨c % 128 + 128 * v, ?_, ?_, ?_, ?_, fun _ => by omega⟩
        · rw [encF_big _ _ hbig, hmod, hdiv]
          exact stand_cons hc (by rw [Nat.add_assoc]; exact hv1)
        · rw [encF_big _ _ hbig, hdiv, hv2]; simp; omega
        · rw [encF_big _ _ hbig, hdiv]; simp; omega
        · rw [hv4, e7]
          congr 1
          rw [Nat.add_mul, Nat.add_assoc]
          congr 1
          rw [Nat.mul_comm 128 v, Nat.mul_assoc, Nat.mul_comm 128]
theorem fold_unf (v : Nat) : (foldZ (unfZ v)).toNat = v := by
  unfold foldZ unfZ
  split <;> split <;> omega
/-- The bytes that were read are those that are written. -/
theorem getB_back {s : ByteArray} {a : Nat} {N P : Int} (hs : s.size ≤ 20000) (h : getB s a = (N, P, 0)) :
    StandAt s a (encN N) ∧ P = (a : Int) + (encN N).length ∧ a + (encN N).length ≤ s.size := by
  rw [getB_nat s a hs] at h
  obtain ⟨v, h1, h2, h3, h4, _⟩ := get_back s a 9 0 0 N P (by omega) h
  have e : encN N = encF 10 v := by
    unfold encN
    rw [h4]
    simp [fold_unf]
  rw [e]
  exact ⟨by simpa using h1, by simpa using h2, by simpa using h3⟩
theorem ext_stand {s : ByteArray} {a : Nat} {l : List UInt8} (h : StandAt s a l) (hsz : a + l.length ≤ s.size) : s.extract a (a + l.length) = ⟨l.toArray⟩ := by
  have hx : s.extract a (a + l.length) = ⟨((s.data.toList.drop a).take (a + l.length - a)).toArray⟩ := by
    obtain ⟨⟨d⟩⟩ := s
    exact ByteArray.extract_mk d a (a + l.length)
  rw [hx]
  have hl : s.data.toList.length = s.size := by rw [Array.length_toList]; rfl
  congr 2
  apply List.ext_getElem
  · simp; omega
  · intro j h1 h2
    have := h j h2
    simp only [byteAt] at this
    rw [List.getD_eq_getElem?_getD, List.getD_eq_getElem?_getD, List.getElem?_eq_getElem (by rw [hl]; omega), List.getElem?_eq_getElem h2] at this
    simp only [Option.getD_some] at this
    simp only [List.getElem_take, List.getElem_drop]
    exact UInt8.toNat_inj.1 this
end Go.Proofs.YthjanamnkhggfaaDoor.Draw
