/- The functions of the language by number: what the program's look at its table answers. -/
import Derived.Test.YtkhjmjlmbeealaaDoorFw
import Derived.Test.YtkhjmjlmbeealaaDoorName
namespace Go.Proofs.YtkhjmjlmbeealaaDoor
open Go.RowKit
open Go.Proofs.YtkhjmjlmbeealaaDoor.Draw

def callB (s : ByteArray) : Bool := (s.toList == [105, 110, 116, 101, 114, 101, 115, 116]) || ((s.toList == [105, 110, 115, 116, 97, 108, 109, 101, 110, 116]) || ((s.toList == [108, 97, 116, 101, 114]) || ((s.toList == [100, 97, 121, 115]) || ((s.toList == [108, 101, 97, 115, 116]) || ((s.toList == [109, 111, 115, 116]) || ((s.toList == [115, 104, 97, 114, 101])))))))
/-- A number that is told of a word. -/
def FnIs (s : ByteArray) (r : Int) : Prop := (∃ k : Nat, k < 8 ∧ r = (k : Int) ∧ ((funS k).toList == s.toList) = true ∧ ∀ j, j < k → ((funS j).toList == s.toList) = false) ∨ (r = 0 ∧ ∀ j, j < 8 → ((funS j).toList == s.toList) = false)
theorem funS_list (k : Nat) : (funS k).toList = funT.getD k [] := by
  unfold funS
  show (ByteArray.mk (funT.getD k []).toArray).toList = _
  rw [ByteArray.toList_eq]
theorem callB_of {s : ByteArray} {r : Int} (h : FnIs s r) : callB s = (r != 0) := by
  unfold callB
  rcases h with ⟨k, hk, rfl, he, hn⟩ | ⟨rfl, hn⟩
  · rw [funS_list] at he
    have hs : s.toList = funT.getD k [] := (by simpa using he : funT.getD k [] = s.toList).symm
    rw [hs]
    rcases (by omega : k = 0 ∨ k = 1 ∨ k = 2 ∨ k = 3 ∨ k = 4 ∨ k = 5 ∨ k = 6 ∨ k = 7) with rfl | rfl | rfl | rfl | rfl | rfl | rfl | rfl <;> decide
  · have h1 : ∀ j, j < 8 → (s.toList == funT.getD j []) = false := fun j hj => by
      have := hn j hj
      rw [funS_list] at this
      rw [Bool.eq_false_iff] at this ⊢
      intro hc
      apply this
      simp at hc ⊢
      exact hc.symm
    have a1 := h1 1 (by omega)
    have a2 := h1 2 (by omega)
    have a3 := h1 3 (by omega)
    have a4 := h1 4 (by omega)
    have a5 := h1 5 (by omega)
    have a6 := h1 6 (by omega)
    have a7 := h1 7 (by omega)
    simp only [funT, List.getD_cons_succ, List.getD_cons_zero] at a1 a2 a3 a4 a5 a6 a7
    rw [a1, a2, a3, a4, a5, a6, a7]
    rfl
end Go.Proofs.YtkhjmjlmbeealaaDoor
