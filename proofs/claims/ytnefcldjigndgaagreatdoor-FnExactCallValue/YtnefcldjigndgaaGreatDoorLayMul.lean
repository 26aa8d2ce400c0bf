/- The shelf's bodies laid at this seat's program: the library's functions stand there as the shelf's contracts have them. -/
import Derived.Test.YtnefcldjigndgaaGreatDoorChecked
import Derived.Shelf.LaysM
import Derived.KernelRfl
namespace Go.Proofs.YtnefcldjigndgaaGreatDoor
def ren264 : Go.Shelf.Ren := ⟨fun | 264 => 65 | n => n, fun | 46 => 120 | 53 => 95 | n => n, fun  | n => n⟩
set_option maxRecDepth 100000 in
theorem lays264 : Go.Proofs.Lays.n264 Tryz.prog ren264 := {
  mixed := by kernel_rfl,
  f264 := by kernel_rfl,
  t46 := by kernel_rfl,
  a46 := fun _ => by kernel_rfl,
  z46 := fun _ => by kernel_rfl,
  v46 := fun _ => by kernel_rfl,
  t53 := by kernel_rfl,
  a53 := fun _ => by kernel_rfl,
  z53 := fun _ => by kernel_rfl,
  v53 := fun _ => by kernel_rfl }
end Go.Proofs.YtnefcldjigndgaaGreatDoor
