/- What a drawn operator comes to is of the type that is told for it: no program in it. -/
import Derived.Test.YtnkklkbokpeanaaDoorOvA
import Derived.Test.YtnkklkbokpeanaaDoorOpA
namespace Go.Proofs.YtnkklkbokpeanaaDoor
open Go.RowKit

theorem outB_of {m n : Int} (h : outB m = (n, 0)) : rightB n = true := by
  unfold outB at h
  cases hr : rightB m with
  | true => rw [hr] at h; simp at h; rw [← h]; exact hr
  | false => rw [hr] at h; simp at h
theorem timesB_of {a b n : Int} (h : timesB a b = (n, 0)) : rightB n = true := by
  unfold timesB at h
  split at h
  · exact outB_of h
  · simp at h
theorem oneI_of {c : Bool} {n : Int} (h : oneI c = (n, 0)) : n = 0 ∨ n = 1 := by
  unfold oneI at h
  cases c <;> simp at h <;> omega
theorem right01 {n : Int} (h : n = 0 ∨ n = 1) : rightB n = true := by rcases h with rfl | rfl <;> decide
theorem ops_fact {s : ByteArray} {a b n : Int} (h : opW s a b = (n, 0)) : rightB n = true ∧ ((opT s 5 5 = 5 ∨ opT s 1 1 = 5) → n = 0 ∨ n = 1) := by
  cases ha : rightB a
  · rw [opW_no (by rw [ha]; rfl)] at h; simp at h
  cases hb : rightB b
  · rw [opW_no (by rw [ha, hb]; rfl)] at h; simp at h
  cases h0 : (s.toList == [43])
  rotate_left
  · rw [opW_plus ha hb h0] at h
    refine ⟨outB_of h, fun ht => ?_⟩
    exfalso
    unfold opT at ht
    simp [h0] at ht
  cases h1 : (s.toList == [45])
  rotate_left
  · rw [opW_minus ha hb h0 h1] at h
    refine ⟨outB_of h, fun ht => ?_⟩
    exfalso
    unfold opT at ht
    simp [h0, h1] at ht
  cases h2 : (s.toList == [42])
  rotate_left
  · rw [opW_times ha hb h0 h1 h2] at h
    refine ⟨timesB_of h, fun ht => ?_⟩
    exfalso
    unfold opT at ht
    simp [h0, h1, h2] at ht
  cases h3 : (s.toList == [60])
  rotate_left
  · rw [opW_less ha hb h0 h1 h2 h3] at h
    exact ⟨right01 (oneI_of h), fun _ => oneI_of h⟩
  cases h4 : (s.toList == [60, 61])
  rotate_left
  · rw [opW_leq ha hb h0 h1 h2 h3 h4] at h
    exact ⟨right01 (oneI_of h), fun _ => oneI_of h⟩
  cases h5 : (s.toList == [61])
  rotate_left
  · rw [opW_same ha hb h0 h1 h2 h3 h4 h5] at h
    exact ⟨right01 (oneI_of h), fun _ => oneI_of h⟩
  cases h6 : (s.toList == [97, 110, 100])
  rotate_left
  · rw [opW_and ha hb h0 h1 h2 h3 h4 h5 h6] at h
    exact ⟨right01 (oneI_of h), fun _ => oneI_of h⟩
  cases h7 : (s.toList == [111, 114])
  rotate_left
  · rw [opW_or ha hb h0 h1 h2 h3 h4 h5 h6 h7] at h
    exact ⟨right01 (oneI_of h), fun _ => oneI_of h⟩
  rw [opW_none ha hb h0 h1 h2 h3 h4 h5 h6 h7] at h
  simp at h
end Go.Proofs.YtnkklkbokpeanaaDoor
