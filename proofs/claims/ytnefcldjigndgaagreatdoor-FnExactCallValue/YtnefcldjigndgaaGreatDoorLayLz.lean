/- The shelf's bodies laid at this seat's program: the library's functions stand there as the shelf's contracts have them. -/
import Derived.Test.YtnefcldjigndgaaGreatDoorChecked
import Derived.Shelf.LaysM
import Derived.KernelRfl
namespace Go.Proofs.YtnefcldjigndgaaGreatDoor
def ren134 : Go.Shelf.Ren := ⟨fun | 129 => 83 | 134 => 80 | n => n, fun | 3 => 3 | 4 => 4 | 5 => 5 | 9 => 9 | 46 => 120 | 53 => 95 | n => n, fun  | n => n⟩
set_option maxRecDepth 100000 in
theorem lays134 : Go.Proofs.Lays.n134 Tryz.prog ren134 := {
  mixed := by kernel_rfl,
  f129 := by kernel_rfl,
  f134 := by kernel_rfl,
  t3 := by kernel_rfl,
  a3 := fun _ => by kernel_rfl,
  z3 := fun _ => by kernel_rfl,
  v3 := fun _ => by kernel_rfl,
  t4 := by kernel_rfl,
  a4 := fun _ => by kernel_rfl,
  z4 := fun _ => by kernel_rfl,
  v4 := fun _ => by kernel_rfl,
  t5 := by kernel_rfl,
  a5 := fun _ => by kernel_rfl,
  z5 := fun _ => by kernel_rfl,
  v5 := fun _ => by kernel_rfl,
  t9 := by kernel_rfl,
  a9 := fun _ => by kernel_rfl,
  z9 := fun _ => by kernel_rfl,
  v9 := fun _ => by kernel_rfl,
  t46 := by kernel_rfl,
  a46 := fun _ => by kernel_rfl,
  z46 := fun _ => by kernel_rfl,
  v46 := fun _ => by kernel_rfl,
  t53 := by kernel_rfl,
  a53 := fun _ => by kernel_rfl,
  z53 := fun _ => by kernel_rfl,
  v53 := fun _ => by kernel_rfl }
end Go.Proofs.YtnefcldjigndgaaGreatDoor
