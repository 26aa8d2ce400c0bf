/- The laws that hold LoanRight, LoanLeft and Instalment against their models. -/
import Derived.Test.YtmeffdggpdojhaaDoorPlanIn
namespace Go.Proofs.YtmeffdggpdojhaaDoor
open Go.RowKit

/-- A call's first own block, its boxed loan. -/
structure One (w W : World) (cs : Array Value) : Prop where
  box : ∀ j, W.cell? ⟨w.heap.size, j, none⟩ = cs[j]?
  size : w.heap.size + 1 ≤ W.heap.size
  bel : Below w.heap.size w W
theorem one_new (w : World) (cs : Array Value) (t : TypeId) : One w (w.alloc (.cells cs t)) cs := ⟨fun j => cell_new_at rfl j, by simp, (Below.refl _ _).alloc (Nat.le_refl _) _⟩
theorem One.next {w W W' : World} {cs : Array Value} (h : One w W cs) (hb : Below W.heap.size W W') : One w W' cs :=
  ⟨fun j => (hb.cell (p := ⟨w.heap.size, j, none⟩) (by have := h.size; simp; omega)).trans (h.box j), Nat.le_trans h.size hb.size, h.bel.trans (hb.mono h.bel.size)⟩
theorem One.alloc {w W : World} {cs : Array Value} (h : One w W cs) (o : Obj) : One w (W.alloc o) cs := h.next ((Below.refl _ _).alloc (Nat.le_refl _) _)





end Go.Proofs.YtmeffdggpdojhaaDoor
