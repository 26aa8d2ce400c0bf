/- Is it money (spec.MoneyRight, impl.MoneyRight)? What each call does, and the law that holds one against the other. -/
import Derived.Test.YtgbkpifkmkjbaaaRows
import Derived.WalkKit
import Derived.ProofKit
import Derived.WalkLawsBesides
import Derived.Below
namespace Go.Proofs.Ytgbkpifkmkjbaaa
open Go.RowKit

def rightB (n : Int) : Bool := decide (-1000000000000 ≤ n) && decide (n ≤ 1000000000000)
theorem rightB_yes {n : Int} (h0 : -1000000000000 ≤ n) (h1 : n ≤ 1000000000000) : rightB n = true := by simp [rightB, h0, h1]
theorem rightB_no {n : Int} (h : n < -1000000000000 ∨ 1000000000000 < n) : rightB n = false := by
  simp [rightB]; omega
theorem rightB_iff (n : Int) : rightB n = true ↔ (-1000000000000 ≤ n ∧ n ≤ 1000000000000) := by simp [rightB]

theorem spec_right (n : Int) (w : World) :
    Calls Try.prog 4 #[.int .i64 n] w fun e w' => e = .returned (.bool (rightB n)) ∧ w' = w := by
  by_cases h0 : -1000000000000 ≤ n
  · have t0 : decide (-1000000000000 ≤ n) = true := by simpa using h0
    by_cases h1 : n ≤ 1000000000000
    · have t1 : decide (n ≤ 1000000000000) = true := by simpa using h1
      rw [rightB_yes h0 h1]
      go_enter Try.func4, Try.ntmps4
      go_wp2
      go_ret
      exact ⟨rfl, rfl⟩
    · have t1 : decide (n ≤ 1000000000000) = false := by simpa using h1
      rw [rightB_no (Or.inr (by omega))]
      go_enter Try.func4, Try.ntmps4
      go_wp2
      go_ret
      exact ⟨rfl, rfl⟩
  · have t0 : decide (-1000000000000 ≤ n) = false := by simpa using h0
    rw [rightB_no (Or.inl (by omega))]
    go_enter Try.func4, Try.ntmps4
    go_wp2
    go_ret
    exact ⟨rfl, rfl⟩

theorem impl_right (n : Int) (w : World) :
    Calls Try.prog 5 #[.int .i64 n] w fun e w' => e = .returned (.bool (rightB n)) ∧ w' = w := by
  by_cases h0 : -1000000000000 ≤ n
  · have t0 : decide (-1000000000000 ≤ n) = true := by simpa using h0
    by_cases h1 : n ≤ 1000000000000
    · have t1 : decide (n ≤ 1000000000000) = true := by simpa using h1
      rw [rightB_yes h0 h1]
      go_enter Try.func5, Try.ntmps5
      go_wp2
      go_ret
      exact ⟨rfl, rfl⟩
    · have t1 : decide (n ≤ 1000000000000) = false := by simpa using h1
      rw [rightB_no (Or.inr (by omega))]
      go_enter Try.func5, Try.ntmps5
      go_wp2
      go_ret
      exact ⟨rfl, rfl⟩
  · have t0 : decide (-1000000000000 ≤ n) = false := by simpa using h0
    rw [rightB_no (Or.inl (by omega))]
    go_enter Try.func5, Try.ntmps5
    go_wp2
    go_ret
    exact ⟨rfl, rfl⟩

set_option maxHeartbeats 400000 in
theorem law_right (n : Int) (_hn : (Lit.int .i64 n).wf = true) (w : World) :
    Calls Try.prog 3 #[.int .i64 n] w fun e w' => e = .returned (.bool true) ∧ Below w.heap.size w w' := by
  have H1 := fun w => spec_right n w
  have H2 := fun w => impl_right n w
  generalize rightB n = r at *
  have H1 : Hid (∀ w, Calls Try.prog 4 #[.int .i64 n] w fun e w' => e = .returned (.bool r) ∧ w' = w) := H1
  have H2 : Hid (∀ w, Calls Try.prog 5 #[.int .i64 n] w fun e w' => e = .returned (.bool r) ∧ w' = w) := H2
  cases r
  · go_enter Try.func3, Try.ntmps3
    go_wp2_with fail
    refine (H1.out _).mono ?_
    rintro e w1 ⟨rfl, rfl⟩
    go_wp2_with fail
    refine (H2.out _).mono ?_
    rintro e w1 ⟨rfl, rfl⟩
    go_wp2_with fail
    go_ret
    exact ⟨rfl, Below.refl _ _⟩
  · go_enter Try.func3, Try.ntmps3
    go_wp2_with fail
    refine (H1.out _).mono ?_
    rintro e w1 ⟨rfl, rfl⟩
    go_wp2_with fail
    refine (H2.out _).mono ?_
    rintro e w1 ⟨rfl, rfl⟩
    go_wp2_with fail
    go_ret
    exact ⟨rfl, Below.refl _ _⟩
end Go.Proofs.Ytgbkpifkmkjbaaa
