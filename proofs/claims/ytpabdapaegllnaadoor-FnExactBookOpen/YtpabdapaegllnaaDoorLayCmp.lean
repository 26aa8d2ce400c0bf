/- The shelf's bodies laid at this seat's program: the library's functions stand there as the shelf's contracts have them. -/
import Derived.Test.YtpabdapaegllnaaDoorChecked
import Derived.Shelf.LaysM
import Derived.KernelRfl
namespace Go.Proofs.YtpabdapaegllnaaDoor
def ren106 : Go.Shelf.Ren := ⟨fun | 106 => 94 | 213 => 105 | 265 => 112 | n => n, fun | 3 => 3 | 9 => 9 | n => n, fun  | n => n⟩
set_option maxRecDepth 100000 in
theorem lays106 : Go.Proofs.Lays.n106 Tryd.prog ren106 := {
  mixed := by kernel_rfl,
  f106 := by kernel_rfl,
  f213 := by kernel_rfl,
  f265 := by kernel_rfl,
  t3 := by kernel_rfl,
  a3 := fun _ => by kernel_rfl,
  z3 := fun _ => by kernel_rfl,
  v3 := fun _ => by kernel_rfl,
  t9 := by kernel_rfl,
  a9 := fun _ => by kernel_rfl,
  z9 := fun _ => by kernel_rfl,
  v9 := fun _ => by kernel_rfl }
end Go.Proofs.YtpabdapaegllnaaDoor
