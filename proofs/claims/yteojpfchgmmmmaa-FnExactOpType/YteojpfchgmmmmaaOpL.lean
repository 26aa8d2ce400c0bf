/- The law of OpType. -/
import Derived.Test.YteojpfchgmmmmaaOpS
import Derived.Test.YteojpfchgmmmmaaOpI
namespace Go.Proofs.Yteojpfchgmmmmaa
open Go.RowKit


set_option maxRecDepth 100000 in
set_option maxHeartbeats 8000000 in
theorem law_opType (s : ByteArray) (hs : s.size ≤ maxLen) (a : Int) (_ha : (Lit.int .i64 a).wf = true) (b : Int) (_hb : (Lit.int .i64 b).wf = true) (w : World) :
    Calls Try.prog 4 #[.string s, .int .i64 a, .int .i64 b] w fun e w' => e = .returned (.bool true) ∧ Below w.heap.size w w' := by
  clear _ha _hb
  unfold maxLen at hs
  by_cases hl : s.size ≤ 1048576
  rotate_left
  · have q0 : decide (1048576 < s.size) = true := by simp; omega
    have q1 : decide ((1048576 : Int) < (s.size : Int)) = true := by simp; omega
    go_enter Try.func4, Try.ntmps4
    go_wp2_with fail
    go_ret
    exact ⟨rfl, Below.refl _ _⟩
  have q0 : decide (1048576 < s.size) = false := by simp; omega
  have q1 : decide ((1048576 : Int) < (s.size : Int)) = false := by simp; omega
  have HS : Hid (∀ W, Calls Try.prog 10 #[.string s, .int .i64 a, .int .i64 b] W fun e w' => e = .returned (.int .i64 (opT s a b)) ∧ w' = W) := fun W => spec_opT s a b W
  have HI : Hid (∀ W, Calls Try.prog 11 #[.string s, .int .i64 a, .int .i64 b] W fun e w' => e = .returned (.int .i64 (opT s a b)) ∧ w' = W) := fun W => impl_opT s a b W
  generalize opT s a b = R at *
  have qq : (R != R) = false := by simp
  go_enter Try.func4, Try.ntmps4
  go_wp2_with fail
  refine (HS.out _).mono ?_
  rintro e w1 ⟨rfl, rfl⟩
  go_wp2_with fail
  refine (HI.out _).mono ?_
  rintro e w2 ⟨rfl, rfl⟩
  go_wp2_with fail
  go_ret
  exact ⟨rfl, Below.refl _ _⟩
end Go.Proofs.Yteojpfchgmmmmaa
