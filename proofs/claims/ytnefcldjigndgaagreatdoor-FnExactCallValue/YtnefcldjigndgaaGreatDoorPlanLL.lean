/- LoanLeft and Instalment, of the program and of its model: what each call does. -/
import Derived.Test.YtnefcldjigndgaaGreatDoorPlanInst
namespace Go.Proofs.YtnefcldjigndgaaGreatDoor
open Go.RowKit

/-- A call's own two blocks, at the head of what it makes: its boxed loan and its result. -/
structure Two (w W : World) (cs rs : Array Value) : Prop where
  box : ∀ j, W.cell? ⟨w.heap.size, j, none⟩ = cs[j]?
  res : ∀ j, W.cell? ⟨w.heap.size + 1, j, none⟩ = rs[j]?
  fro : ∀ j, W.frozen? ⟨w.heap.size + 1, j, none⟩ = false
  size : w.heap.size + 2 ≤ W.heap.size
  bel : Below w.heap.size w W
theorem two_new (w : World) (cs rs : Array Value) (t t' : TypeId) : Two w ((w.alloc (.cells cs t)).alloc (.cells rs t')) cs rs :=
  ⟨fun j => cell_at rfl j, fun j => cell_new_at (by simp) j, fun j => frozen_new_at (by simp) j, by simp, ((Below.refl _ _).alloc (Nat.le_refl _) _).alloc (by simp) _⟩
theorem Two.next {w W W' : World} {cs rs : Array Value} (h : Two w W cs rs) (hb : Below W.heap.size W W') : Two w W' cs rs :=
  ⟨fun j => (hb.cell (p := ⟨w.heap.size, j, none⟩) (by have := h.size; simp; omega)).trans (h.box j), fun j => (hb.cell (p := ⟨w.heap.size + 1, j, none⟩) (by have := h.size; simp; omega)).trans (h.res j),
   fun j => (hb.frozen (p := ⟨w.heap.size + 1, j, none⟩) (by have := h.size; simp; omega)).trans (h.fro j), Nat.le_trans h.size hb.size, h.bel.trans (hb.mono h.bel.size)⟩
theorem Two.drew {w W : World} {cs rs : Array Value} (h : Two w W cs rs) : Two w W.drew cs rs := ⟨h.box, h.res, h.fro, h.size, h.bel.drew⟩
theorem due_shape {w : World} {v : Value} {s : Int} {n : Nat} (h : Due w v s n) : ∃ g cap, v = .slice (some ⟨g, 0, none⟩) n cap := by
  obtain ⟨g, cap, e, _⟩ := h; exact ⟨g, cap, e⟩

def loanLeftB (p r b s t pay : Int) : Int × Int := if loanB p r b s t = true ∧ 0 ≤ pay ∧ pay ≤ 20000000000 then (leftI p r b s pay t.toNat, 0) else (0, 1)
theorem loanLeftB_ok {p r b s pay : Int} {n : Nat} (h : LoanOk p r b s n) (y0 : 0 ≤ pay) (y1 : pay ≤ 20000000000) : loanLeftB p r b s n pay = (leftI p r b s pay n, 0) := by
  rw [loanLeftB, if_pos ⟨(loanB_iff _ _ _ _ _).2 h, y0, y1⟩, Int.toNat_natCast]
theorem LoanOk.nat {p r b s t : Int} (h : LoanOk p r b s t) : ∃ n : Nat, t = n := ⟨t.toNat, by have := h.t0; omega⟩



end Go.Proofs.YtnefcldjigndgaaGreatDoor
