/- What the rows' lists of package-level variables give the walks: the table of blanks; and a world that meets the list (what the program's own start-up lays). -/
import Derived.Test.YtnkklkbokpeanaaDoorLex
import Derived.Lib.LaidTab
import Derived.LaidHandle
import Derived.LaidLaws
import Derived.LaidMore
import Derived.MakeChecks
import Derived.Stop.Joined
import Derived.Stop.LaidErr
namespace Go.Proofs.YtnkklkbokpeanaaDoor
open Go.RowKit

namespace Laid
theorem ascEq : (Rows.laid_strings_asciiSpace : DataW Unit) = Lib.tabData .u8 Lib.asciiSpaceTab := by kernel_rfl
theorem ascT : (Tryd.prog.globals[1]?).map (·.type) = some 171 := by kernel_rfl
theorem asc {rest : List (String × DataW Unit)} {W : World} (h : laidMet Tryd.prog (("strings.asciiSpace", Rows.laid_strings_asciiSpace) :: rest) W) : Asc W := by
  rw [ascEq] at h
  exact Lib.tabIs_of_head asc_g ascT Tryd.underlying171 Tryd.underlying5 (by kernel_rfl) (by kernel_rfl) h
end Laid
def laidW : List (String × DataW Unit) := [("unicode.White_Space", Rows.laid_unicode_White_Space), ("strings.asciiSpace", Rows.laid_strings_asciiSpace)]
theorem lay_w {W : World} (h : laidMetH Tryd.prog laidW W) : Asc W := by
  rw [MakeChecks.laidMetH_plain _ _ _ (by kernel_rfl)] at h
  exact Laid.asc h.tail
theorem door_w (os : Os) (args : Array Value) : laidMetH Tryd.prog laidW ((World.doorLaid Tryd.prog 400 os).forCall (fun _ _ => 0) ⟨#[], args, []⟩).memory :=
  laidMetH_of_parts (laidMet_of_run' 8 (by kernel_rfl) (by kernel_rfl)) (by kernel_rfl)
end Go.Proofs.YtnkklkbokpeanaaDoor
