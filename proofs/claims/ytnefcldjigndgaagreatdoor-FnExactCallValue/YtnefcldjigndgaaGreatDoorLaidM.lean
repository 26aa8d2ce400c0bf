/- What the rows' lists give of the array of the months' lengths (besides Laid: the handle and the tables), and worlds that meet each such list. -/
import Derived.Test.YtnefcldjigndgaaGreatDoorLaid
import Derived.Test.YtnefcldjigndgaaGreatDoorCal
namespace Go.Proofs.YtnefcldjigndgaaGreatDoor
open Go.RowKit

def monTab : List Int := [31, 28, 31, 30, 31, 30, 31, 31, 30, 31, 30, 31]
namespace Laid
theorem monEq : (Rows.laid_loop_example_g00221_impl_monthLengths : DataW Unit) = Lib.tabData .i64 monTab := by kernel_rfl
theorem mg : Tryz.prog.globalNamed "loop.example/g00221/impl.monthLengths" = some 2 := by kernel_rfl
theorem mT : (Tryz.prog.globals[2]?).map (·.type) = some 104 := by kernel_rfl
theorem mon {rest : List (String × DataW Unit)} {W : World} (h : laidMet Tryz.prog (("loop.example/g00221/impl.monthLengths", Rows.laid_loop_example_g00221_impl_monthLengths) :: rest) W) : Mon W := by
  rw [monEq] at h
  have ht := Lib.tabIs_of_head mg mT Tryz.underlying104 Tryz.underlying2 (by kernel_rfl) (by kernel_rfl) h
  intro k hk
  rw [ht.cell mg k (by simpa [monTab] using hk)]
  rcases (by omega : k = 0 ∨ k = 1 ∨ k = 2 ∨ k = 3 ∨ k = 4 ∨ k = 5 ∨ k = 6 ∨ k = 7 ∨ k = 8 ∨ k = 9 ∨ k = 10 ∨ k = 11) with rfl | rfl | rfl | rfl | rfl | rfl | rfl | rfl | rfl | rfl | rfl | rfl <;> rfl
end Laid
def laidM : List (String × DataW Unit) := [("loop.example/g00221/impl.monthLengths", Rows.laid_loop_example_g00221_impl_monthLengths)]
def laidHM : List (String × DataW Unit) := [("errors.errorType", Rows.laid_errors_errorType), ("loop.example/g00221/impl.monthLengths", Rows.laid_loop_example_g00221_impl_monthLengths)]
theorem lay_m {W : World} (h : laidMetH Tryz.prog laidM W) : Mon W := by
  rw [MakeChecks.laidMetH_plain _ _ _ (by kernel_rfl)] at h
  exact Laid.mon h
theorem lay_hm {W : World} (h : laidMetH Tryz.prog laidHM W) : Mon W ∧ Lay W := by
  have h' : laidMet Tryz.prog laidM W ∧ handlesMet Tryz.prog [("errors.errorType", Rows.laid_errors_errorType)] W := h
  exact ⟨Laid.mon h'.1, Laid.handle h'.2 (List.mem_singleton.2 rfl)⟩
theorem door_m (os : Os) (args : Array Value) : laidMetH Tryz.prog laidM ((World.doorLaid Tryz.prog 400 os).forCall (fun _ _ => 0) ⟨#[], args, []⟩).memory :=
  laidMetH_of_parts (laidMet_of_run' 8 (by kernel_rfl) (by kernel_rfl)) (by kernel_rfl)
theorem door_hm (os : Os) (args : Array Value) : laidMetH Tryz.prog laidHM ((World.doorLaid Tryz.prog 400 os).forCall (fun _ _ => 0) ⟨#[], args, []⟩).memory :=
  laidMetH_of_parts (laidMet_of_run' 8 (by kernel_rfl) (by kernel_rfl)) (by kernel_rfl)
end Go.Proofs.YtnefcldjigndgaaGreatDoor
