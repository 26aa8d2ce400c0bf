/- Is it money (spec.MoneyRight, impl.MoneyRight)? What each call does, and the law that holds one against the other. -/
import Derived.Test.YtdbahildcecgbaaDoorRows
import Derived.WalkKit
import Derived.ProofKit
import Derived.WalkLawsBesides
import Derived.Below
namespace Go.Proofs.YtdbahildcecgbaaDoor
open Go.RowKit

def rightB (n : Int) : Bool := decide (-1000000000000 ≤ n) && decide (n ≤ 1000000000000)
theorem rightB_yes {n : Int} (h0 : -1000000000000 ≤ n) (h1 : n ≤ 1000000000000) : rightB n = true := by simp [rightB, h0, h1]
theorem rightB_no {n : Int} (h : n < -1000000000000 ∨ 1000000000000 < n) : rightB n = false := by
  simp [rightB]; omega
theorem rightB_iff (n : Int) : rightB n = true ↔ (-1000000000000 ≤ n ∧ n ≤ 1000000000000) := by simp [rightB]

theorem spec_right (n : Int) (w : World) :
    Calls Tryd.prog 34 #[.int .i64 n] w fun e w' => e = .returned (.bool (rightB n)) ∧ w' = w := by
  by_cases h0 : -1000000000000 ≤ n
  · have t0 : decide (-1000000000000 ≤ n) = true := by simpa using h0
    by_cases h1 : n ≤ 1000000000000
    · have t1 : decide (n ≤ 1000000000000) = true := by simpa using h1
      rw [rightB_yes h0 h1]
      go_enter Tryd.func34, Tryd.ntmps34
      go_wp2
      go_ret
      exact ⟨rfl, rfl⟩
    · have t1 : decide (n ≤ 1000000000000) = false := by simpa using h1
      rw [rightB_no (Or.inr (by omega))]
      go_enter Tryd.func34, Tryd.ntmps34
      go_wp2
      go_ret
      exact ⟨rfl, rfl⟩
  · have t0 : decide (-1000000000000 ≤ n) = false := by simpa using h0
    rw [rightB_no (Or.inl (by omega))]
    go_enter Tryd.func34, Tryd.ntmps34
    go_wp2
    go_ret
    exact ⟨rfl, rfl⟩


end Go.Proofs.YtdbahildcecgbaaDoor
