/- What the program's two tables hold: the shapes of the instructions, by op; the names of the functions, by number. -/
import Derived.Test.YtnefcldjigndgaaGreatDoorBase
namespace Go.Proofs.YtnefcldjigndgaaGreatDoor
open Go.RowKit
open Go.Proofs.YtnefcldjigndgaaGreatDoor.Draw

def funT : List (List UInt8) := [[], [105, 110, 116, 101, 114, 101, 115, 116], [105, 110, 115, 116, 97, 108, 109, 101, 110, 116], [108, 97, 116, 101, 114], [100, 97, 121, 115], [108, 101, 97, 115, 116], [109, 111, 115, 116], [115, 104, 97, 114, 101]]
def funS (k : Nat) : ByteArray := ⟨(funT.getD k []).toArray⟩
def FunW (w : World) : Prop := ∀ k : Nat, k < 8 → w.cell? ⟨1, k, none⟩ = some (.string (funS k))
theorem FunW.lt {w : World} (h : FunW w) : 1 < w.heap.size := World.block_lt_of_cell? _ _ (h 0 (by omega))
theorem FunW.below {w w' : World} (h : FunW w) (hb : Below w.heap.size w w') : FunW w' := fun k hk => (hb.cell (p := ⟨1, k, none⟩) h.lt).trans (h k hk)
theorem FunW.grown {w w' : World} {b : Option Nat} (h : FunW w) (hg : w.grownBy w' b) (hb : some 1 ≠ b) : FunW w' := fun k hk => (World.cell?_of_block (a := ⟨1, k, none⟩) (hg.block _ h.lt hb)).trans (h k hk)
end Go.Proofs.YtnefcldjigndgaaGreatDoor
