/- Products of money in the model (spec.MoneyTimes), and the law that holds impl.MoneyTimes against it. -/
import Derived.Test.YtnefcldjigndgaaGreatDoorTimes
namespace Go.Proofs.YtnefcldjigndgaaGreatDoor
open Go.RowKit

set_option maxHeartbeats 400000 in
theorem spec_abs (n : Int) (w : World) (h0 : -9223372036854775807 ≤ n) (h1 : n ≤ 9223372036854775807) :
    Calls Tryz.prog 31 #[.int .i64 n] w fun e w' => e = .returned (.int .i64 (n.natAbs : Int)) ∧ w' = w := by
  by_cases h : n < 0
  · have e1 : (n.natAbs : Int) = -n := by omega
    rw [e1]
    go_enter Tryz.func31, Tryz.ntmps31
    go_wp2
    go_ret
    exact ⟨rfl, rfl⟩
  · have e1 : (n.natAbs : Int) = n := by omega
    rw [e1]
    go_enter Tryz.func31, Tryz.ntmps31
    go_wp2
    go_ret
    exact ⟨rfl, rfl⟩



end Go.Proofs.YtnefcldjigndgaaGreatDoor
