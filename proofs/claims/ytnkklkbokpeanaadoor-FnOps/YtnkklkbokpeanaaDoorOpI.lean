/- The types of operators: the program. -/
import Derived.Test.YtnkklkbokpeanaaDoorOpI1
import Derived.Test.YtnkklkbokpeanaaDoorOpI2
namespace Go.Proofs.YtnkklkbokpeanaaDoor
open Go.RowKit
open Go.Proofs.YtnkklkbokpeanaaDoor.Draw

theorem impl_opT (s : ByteArray) (a b : Int) (w : World) :
    Calls Tryd.prog 10 #[.string s, .int .i64 a, .int .i64 b] w fun e w' => e = .returned (.int .i64 (opT s a b)) ∧ w' = w := by
  cases h0 : (s.toList == [43])
  rotate_left
  · exact impl_op_plus s a b h0 w
  cases h1 : (s.toList == [45])
  rotate_left
  · exact impl_op_minus s a b h0 h1 w
  cases h2 : (s.toList == [42])
  rotate_left
  · exact impl_op_times s a b h0 h1 h2 w
  cases h3 : (s.toList == [60])
  rotate_left
  · exact impl_op_less s a b h0 h1 h2 h3 w
  cases h4 : (s.toList == [60, 61])
  rotate_left
  · exact impl_op_leq s a b h0 h1 h2 h3 h4 w
  cases h5 : (s.toList == [61])
  rotate_left
  · exact impl_op_same s a b h0 h1 h2 h3 h4 h5 w
  cases h6 : (s.toList == [97, 110, 100])
  rotate_left
  · exact impl_op_and s a b h0 h1 h2 h3 h4 h5 h6 w
  cases h7 : (s.toList == [111, 114])
  rotate_left
  · exact impl_op_or s a b h0 h1 h2 h3 h4 h5 h6 h7 w
  exact impl_op_none s a b h0 h1 h2 h3 h4 h5 h6 h7 w
end Go.Proofs.YtnkklkbokpeanaaDoor
