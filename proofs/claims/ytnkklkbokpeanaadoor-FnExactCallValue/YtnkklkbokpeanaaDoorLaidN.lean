/- What the rows' lists of package-level variables give the walks: the handle of the type 'error', the table of powers of ten; and a world that meets each list (what the program's own start-up lays). · What the rows' lists give of the array of the months' lengths (besides Laid: the handle and the tables), and worlds that meet each such list. -/
import Derived.Test.YtnkklkbokpeanaaDoorAs
import Derived.Lib.LaidTab
import Derived.Lib.ItoaNum
import Derived.LaidHandle
import Derived.LaidLaws
import Derived.LaidMore
import Derived.MakeChecks
import Derived.Stop.Joined
import Derived.Stop.LaidErr
import Derived.Test.YtnkklkbokpeanaaDoorCal
namespace Go.Proofs.YtnkklkbokpeanaaDoor
open Go.RowKit

namespace Laid
theorem et : Tryd.prog.globalNamed "errors.errorType" = some 0 := by kernel_rfl
theorem rt : (Tryd.prog.cutTypes.find? (·.1 == "internal/reflectlite.rtype")).map (·.2) = some 189 := by kernel_rfl
theorem oneRow : ((List.range 269).filter fun t => Tryd.prog.rowNamed t [101, 114, 114, 111, 114]) = [65] := by kernel_rfl
theorem size : Tryd.prog.types.size = 269 := by kernel_rfl
theorem handle {L : List (String × DataW Unit)} {W : World} (h : handlesMet Tryd.prog L W) (hm : ("errors.errorType", Rows.laid_errors_errorType) ∈ L) : Lay W := by
  obtain ⟨name, u, ty, e1, e2, e3, e4, e5⟩ := h _ hm
  have en : name = [101, 114, 114, 111, 114] := (Option.some.inj e1).symm
  subst en
  obtain rfl := Option.some.inj (rt.symm.trans e2)
  have hm : ty ∈ (List.range 269).filter fun t => Tryd.prog.rowNamed t [101, 114, 114, 111, 114] := List.mem_filter.2 ⟨List.mem_range.2 (by rw [← size]; exact e3), e4⟩
  rw [oneRow] at hm
  obtain rfl := List.mem_singleton.1 hm
  have hh : typeHandle Tryd.prog 65 = .pointer (some ⟨7, 65, none⟩) := by kernel_rfl
  rw [hh] at e5
  unfold Lay
  simpa using World.var?_cell et e5 0
end Laid

def laidH : List (String × DataW Unit) := [("errors.errorType", Rows.laid_errors_errorType)]
theorem lay_h {W : World} (h : laidMetH Tryd.prog laidH W) : Lay W := by
  have h' : laidMet Tryd.prog [] W ∧ handlesMet Tryd.prog laidH W := h
  exact Laid.handle h'.2 (List.mem_singleton.2 rfl)
theorem door_h (os : Os) (args : Array Value) : laidMetH Tryd.prog laidH ((World.doorLaid Tryd.prog 400 os).forCall (fun _ _ => 0) ⟨#[], args, []⟩).memory :=
  laidMetH_of_parts (laidMet_nil _ _) (by kernel_rfl)

end Go.Proofs.YtnkklkbokpeanaaDoor
namespace Go.Proofs.YtnkklkbokpeanaaDoor
open Go.RowKit

def monTab : List Int := [31, 28, 31, 30, 31, 30, 31, 31, 30, 31, 30, 31]
namespace Laid
theorem monEq : (Rows.laid_loop_example_g00221_impl_monthLengths : DataW Unit) = Lib.tabData .i64 monTab := by kernel_rfl
theorem mg : Tryd.prog.globalNamed "loop.example/g00221/impl.monthLengths" = some 2 := by kernel_rfl
theorem mT : (Tryd.prog.globals[2]?).map (·.type) = some 186 := by kernel_rfl
theorem mon {rest : List (String × DataW Unit)} {W : World} (h : laidMet Tryd.prog (("loop.example/g00221/impl.monthLengths", Rows.laid_loop_example_g00221_impl_monthLengths) :: rest) W) : Mon W := by
  rw [monEq] at h
  have ht := Lib.tabIs_of_head mg mT Tryd.underlying186 Tryd.underlying2 (by kernel_rfl) (by kernel_rfl) h
  intro k hk
  rw [ht.cell mg k (by simpa [monTab] using hk)]
  rcases (by omega : k = 0 ∨ k = 1 ∨ k = 2 ∨ k = 3 ∨ k = 4 ∨ k = 5 ∨ k = 6 ∨ k = 7 ∨ k = 8 ∨ k = 9 ∨ k = 10 ∨ k = 11) with rfl | rfl | rfl | rfl | rfl | rfl | rfl | rfl | rfl | rfl | rfl | rfl <;> rfl
end Laid
def laidM : List (String × DataW Unit) := [("loop.example/g00221/impl.monthLengths", Rows.laid_loop_example_g00221_impl_monthLengths)]
def laidHM : List (String × DataW Unit) := [("errors.errorType", Rows.laid_errors_errorType), ("loop.example/g00221/impl.monthLengths", Rows.laid_loop_example_g00221_impl_monthLengths)]
theorem lay_m {W : World} (h : laidMetH Tryd.prog laidM W) : Mon W := by
  rw [MakeChecks.laidMetH_plain _ _ _ (by kernel_rfl)] at h
  exact Laid.mon h
theorem lay_hm {W : World} (h : laidMetH Tryd.prog laidHM W) : Mon W ∧ Lay W := by
  have h' : laidMet Tryd.prog laidM W ∧ handlesMet Tryd.prog [("errors.errorType", Rows.laid_errors_errorType)] W := h
  exact ⟨Laid.mon h'.1, Laid.handle h'.2 (List.mem_singleton.2 rfl)⟩
theorem door_m (os : Os) (args : Array Value) : laidMetH Tryd.prog laidM ((World.doorLaid Tryd.prog 400 os).forCall (fun _ _ => 0) ⟨#[], args, []⟩).memory :=
  laidMetH_of_parts (laidMet_of_run' 8 (by kernel_rfl) (by kernel_rfl)) (by kernel_rfl)
theorem door_hm (os : Os) (args : Array Value) : laidMetH Tryd.prog laidHM ((World.doorLaid Tryd.prog 400 os).forCall (fun _ _ => 0) ⟨#[], args, []⟩).memory :=
  laidMetH_of_parts (laidMet_of_run' 8 (by kernel_rfl) (by kernel_rfl)) (by kernel_rfl)
end Go.Proofs.YtnkklkbokpeanaaDoor
