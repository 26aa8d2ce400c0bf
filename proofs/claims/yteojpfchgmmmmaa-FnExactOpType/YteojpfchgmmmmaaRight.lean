/- Is it money (spec.MoneyRight, impl.MoneyRight)? What each call does, and the law that holds one against the other. -/
import Derived.Test.YteojpfchgmmmmaaRows
import Derived.WalkKit
import Derived.ProofKit
import Derived.WalkLawsBesides
import Derived.Below
namespace Go.Proofs.Yteojpfchgmmmmaa
open Go.RowKit

def rightB (n : Int) : Bool := decide (-1000000000000 ≤ n) && decide (n ≤ 1000000000000)
theorem rightB_yes {n : Int} (h0 : -1000000000000 ≤ n) (h1 : n ≤ 1000000000000) : rightB n = true := by simp [rightB, h0, h1]
theorem rightB_no {n : Int} (h : n < -1000000000000 ∨ 1000000000000 < n) : rightB n = false := by
  simp [rightB]; omega
theorem rightB_iff (n : Int) : rightB n = true ↔ (-1000000000000 ≤ n ∧ n ≤ 1000000000000) := by simp [rightB]



end Go.Proofs.Yteojpfchgmmmmaa
