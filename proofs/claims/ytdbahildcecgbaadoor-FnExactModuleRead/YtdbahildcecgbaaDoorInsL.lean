/- The law of InsRight. -/
import Derived.Test.YtdbahildcecgbaaDoorInsI
import Derived.Deep.RegionHeld3
namespace Go.Proofs.YtdbahildcecgbaaDoor
open Go.RowKit
open Go.Proofs.YtdbahildcecgbaaDoor.Draw

theorem OwnR.inss {w : World} {a : Option Addr} {n : Nat} {L : Nat → In} (h : OwnR w a n 3 (insF L)) : InsAt w a n L := by
  rcases h with h | ⟨g, rfl, h⟩
  · exact Or.inl h
  · exact h.inss
/-- A block, cell by cell. -/
structure Blk (w : World) (X : Nat) (cs : Array Value) : Prop where
  cell : ∀ j, w.cell? ⟨X, j, none⟩ = cs[j]?
  lt : X < w.heap.size
theorem Blk.new (w : World) (cs : Array Value) (t : TypeId) : Blk (w.alloc (.cells cs t)) w.heap.size cs := ⟨fun j => cnew' rfl j, by simp⟩
theorem Blk.below {w w' : World} {X : Nat} {cs : Array Value} (h : Blk w X cs) (hb : Below w.heap.size w w') : Blk w' X cs :=
  ⟨fun j => (hb.cell (p := ⟨X, j, none⟩) h.lt).trans (h.cell j), Nat.lt_of_lt_of_le h.lt hb.size⟩
end Go.Proofs.YtdbahildcecgbaaDoor
