/- The law of ProductRight. -/
import Derived.Test.YtnkklkbokpeanaaDoorPrF
import Derived.Test.YtnkklkbokpeanaaDoorPrJ
import Derived.Deep.RegionHeld3
import Derived.Deep.DeepCutAuto
namespace Go.Proofs.YtnkklkbokpeanaaDoor
open Go.RowKit
open Go.Proofs.YtnkklkbokpeanaaDoor.Draw

/-- Cells of a block. -/
structure Bp8 (W : World) (X : Nat) (cs : Array Value) : Prop where
  cell : ∀ j, W.cell? ⟨X, j, none⟩ = cs[j]?
  lt : X < W.heap.size
theorem Bp8.new (w : World) (cs : Array Value) (t : TypeId) : Bp8 (w.alloc (.cells cs t)) w.heap.size cs := ⟨fun j => cnew' rfl j, by simp⟩
theorem Bp8.below {W W' : World} {X : Nat} {cs : Array Value} (h : Bp8 W X cs) (hb : Below W.heap.size W W') : Bp8 W' X cs := ⟨fun j => (hb.cell (p := ⟨X, j, none⟩) h.lt).trans (h.cell j), Nat.lt_of_lt_of_le h.lt hb.size⟩
end Go.Proofs.YtnkklkbokpeanaaDoor
