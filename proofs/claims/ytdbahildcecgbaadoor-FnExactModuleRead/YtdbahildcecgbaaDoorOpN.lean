/- The names of the ops: what the program's and the model's calls answer, and the law. -/
import Derived.Test.YtdbahildcecgbaaDoorFw
namespace Go.Proofs.YtdbahildcecgbaaDoor
open Go.RowKit
open Go.Proofs.YtdbahildcecgbaaDoor.Draw

def opS (op : Int) : ByteArray := if 1 ≤ op ∧ op ≤ 26 then nameO op.toNat else ⟨#[]⟩
set_option maxRecDepth 100000 in
set_option maxHeartbeats 8000000 in
theorem impl_isOp (op : Int) (w : World) :
    Calls Tryd.prog 43 #[.int .i64 op] w fun e w' => e = .returned (.bool (decide (1 ≤ op) && decide (op ≤ 26))) ∧ w' = w := by
  by_cases h1 : 1 ≤ op
  · have p1 : decide (1 ≤ op) = true := by simpa using h1
    go_enter Tryd.func43, Tryd.ntmps43
    go_wp2_with fail
    go_ret
    exact ⟨ret_bool (by simp [h1]), rfl⟩
  · have p1 : decide (1 ≤ op) = false := by simpa using h1
    go_enter Tryd.func43, Tryd.ntmps43
    go_wp2_with fail
    go_ret
    exact ⟨ret_bool (by simp), rfl⟩
end Go.Proofs.YtdbahildcecgbaaDoor
