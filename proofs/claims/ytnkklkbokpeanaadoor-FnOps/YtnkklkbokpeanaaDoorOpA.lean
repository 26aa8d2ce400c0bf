/- The types of operators: what the calls answer. -/
import Derived.Test.YtnkklkbokpeanaaDoorTxs
namespace Go.Proofs.YtnkklkbokpeanaaDoor
open Go.RowKit
open Go.Proofs.YtnkklkbokpeanaaDoor.Draw

def opT (s : ByteArray) (a b : Int) : Int :=
  if ((s.toList == [43]) || (s.toList == [45])) = true then (if a = b ∧ (a = 1 ∨ a = 2) then a else 0) else
  if ((s.toList == [42])) = true then (if (a = 1 ∨ a = 2) ∧ b = 1 then a else 0) else
  if ((s.toList == [60]) || (s.toList == [60, 61])) = true then (if a = b ∧ 1 ≤ a ∧ a ≤ 4 then 5 else 0) else
  if ((s.toList == [61])) = true then (if a = b ∧ 1 ≤ a ∧ a ≤ 5 then 5 else 0) else
  if ((s.toList == [97, 110, 100]) || (s.toList == [111, 114])) = true then (if a = 5 ∧ b = 5 then 5 else 0) else
  0
set_option maxRecDepth 100000 in
set_option maxHeartbeats 8000000 in
theorem impl_cnt (a : Int) (v : Bool) (hv : decide (a = 1 ∨ a = 2) = v) (w : World) :
    Calls Tryd.prog 35 #[.int .i64 a] w fun e w' => e = .returned (.bool v) ∧ w' = w := by
  subst hv
  by_cases h1 : a = 1
  · subst h1
    go_enter Tryd.func35, Tryd.ntmps35
    go_wp2_with fail
    go_ret
    exact ⟨ret_bool (by decide), rfl⟩
  by_cases h2 : a = 2
  · subst h2
    go_enter Tryd.func35, Tryd.ntmps35
    go_wp2_with fail
    go_ret
    exact ⟨ret_bool (by decide), rfl⟩
  have t1 : (a == 1) = false := beq_eq_false_iff_ne.2 h1
  have t2 : (a == 2) = false := beq_eq_false_iff_ne.2 h2
  have HF : Hid (decide (a = 1 ∨ a = 2) = false) := by rw [Hid]; simp [h1, h2]
  clear h1 h2
  go_enter Tryd.func35, Tryd.ntmps35
  go_wp2_with fail
  go_ret
  exact ⟨ret_bool HF.out.symm, rfl⟩
set_option maxRecDepth 100000 in
set_option maxHeartbeats 8000000 in
theorem impl_isT (a : Int) (v : Bool) (hv : (decide (1 ≤ a) && decide (a ≤ 5)) = v) (w : World) :
    Calls Tryd.prog 36 #[.int .i64 a] w fun e w' => e = .returned (.bool v) ∧ w' = w := by
  subst hv
  by_cases h : 1 ≤ a
  · have q : decide (1 ≤ a) = true := by simpa using h
    go_enter Tryd.func36, Tryd.ntmps36
    go_wp2_with fail
    go_ret
    exact ⟨ret_bool (by first | rfl | (rw [q]; rfl) | simp [q]), rfl⟩
  · have q : decide (1 ≤ a) = false := by simpa using h
    go_enter Tryd.func36, Tryd.ntmps36
    go_wp2_with fail
    go_ret
    exact ⟨ret_bool (by first | rfl | (rw [q]; rfl) | simp [q]), rfl⟩
end Go.Proofs.YtnkklkbokpeanaaDoor
