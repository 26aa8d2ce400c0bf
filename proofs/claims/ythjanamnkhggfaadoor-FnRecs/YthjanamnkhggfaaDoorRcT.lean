/- Records read one behind the other (spec.RecsOf): what the call does. -/
import Derived.Test.YthjanamnkhggfaaDoorRcS
import Derived.Deep.QuietTactic
import Derived.BigQuiet
namespace Go.Proofs.YthjanamnkhggfaaDoor
open Go.RowKit
open Go.Proofs.YthjanamnkhggfaaDoor.Draw

/-- The result's block and the outcome's, while records are read. -/
structure Ro (w W : World) (v : Value) (u : Int) : Prop where
  o0 : W.cell? ⟨w.heap.size + 1, 0, none⟩ = some v
  o1 : W.cell? ⟨w.heap.size + 1, 1, none⟩ = some (.int .i64 u)
  o2 : W.cell? ⟨w.heap.size + 1, 2, none⟩ = some (.int .i64 0)
  of : ∀ j, W.frozen? ⟨w.heap.size + 1, j, none⟩ = false
  x0 : W.cell? ⟨w.heap.size, 0, none⟩ = some (.slice none 0 0)
  x1 : W.cell? ⟨w.heap.size, 1, none⟩ = some (.int .i64 0)
  x2 : W.cell? ⟨w.heap.size, 2, none⟩ = some (.int .i64 0)
  xf : ∀ j, W.frozen? ⟨w.heap.size, j, none⟩ = false
  lt : w.heap.size + 2 ≤ W.heap.size
  bel : Below w.heap.size w W
theorem Ro.next {w W W' : World} {v : Value} {u : Int} (h : Ro w W v u) (hb : Below W.heap.size W W') : Ro w W' v u := by
  have hl := h.lt
  have l0 : w.heap.size < W.heap.size := by omega
  have l1 : w.heap.size + 1 < W.heap.size := by omega
  exact ⟨(hb.cell (p := ⟨w.heap.size + 1, 0, none⟩) l1).trans h.o0, (hb.cell (p := ⟨w.heap.size + 1, 1, none⟩) l1).trans h.o1, (hb.cell (p := ⟨w.heap.size + 1, 2, none⟩) l1).trans h.o2, fun j => (hb.frozen (p := ⟨w.heap.size + 1, j, none⟩) l1).trans (h.of j),
    (hb.cell (p := ⟨w.heap.size, 0, none⟩) l0).trans h.x0, (hb.cell (p := ⟨w.heap.size, 1, none⟩) l0).trans h.x1, (hb.cell (p := ⟨w.heap.size, 2, none⟩) l0).trans h.x2, fun j => (hb.frozen (p := ⟨w.heap.size, j, none⟩) l0).trans (h.xf j), Nat.le_trans hl hb.size, h.bel.trans (hb.mono h.bel.size)⟩
theorem Ro.grown {w W W' : World} {v : Value} {u : Int} {row : Option Nat} (h : Ro w W v u) (hg : W.grownBy W' row) (hr : ∀ b, row = some b → w.heap.size + 2 ≤ b) : Ro w W' v u := by
  have hl := h.lt
  have g0 := hg.block w.heap.size (by omega) (fun e => by have := hr _ e.symm; omega)
  have g1 := hg.block (w.heap.size + 1) (by omega) (fun e => by have := hr _ e.symm; omega)
  exact ⟨(World.cell?_of_block (a := ⟨w.heap.size + 1, 0, none⟩) g1).trans h.o0, (World.cell?_of_block (a := ⟨w.heap.size + 1, 1, none⟩) g1).trans h.o1, (World.cell?_of_block (a := ⟨w.heap.size + 1, 2, none⟩) g1).trans h.o2, fun j => (World.frozen?_of_block (a := ⟨w.heap.size + 1, j, none⟩) g1).trans (h.of j),
    (World.cell?_of_block (a := ⟨w.heap.size, 0, none⟩) g0).trans h.x0, (World.cell?_of_block (a := ⟨w.heap.size, 1, none⟩) g0).trans h.x1, (World.cell?_of_block (a := ⟨w.heap.size, 2, none⟩) g0).trans h.x2, fun j => (World.frozen?_of_block (a := ⟨w.heap.size, j, none⟩) g0).trans (h.xf j), Nat.le_trans hl hg.size, h.bel.grown hg (by omega) (fun b e => by have := hr b e; omega)⟩
theorem Ro.set {w W : World} {v v' : Value} {u u' : Int} (h : Ro w W v u) : Ro w ((W.setCell ⟨w.heap.size + 1, 0, none⟩ v').setCell ⟨w.heap.size + 1, 1, none⟩ (.int .i64 u')) v' u' := by
  obtain ⟨o0, o1, o2, ofz, x0, x1, x2, xf, xlt, xbel⟩ := h
  refine ⟨?_, ?_, ?_, fun j => ?_, ?_, ?_, ?_, fun j => ?_, by simpa using xlt, (xbel.setCell (by show w.heap.size ≤ w.heap.size + 1; omega) _).setCell (by show w.heap.size ≤ w.heap.size + 1; omega) _⟩
  · simp [go_sem, o0]
  · simp [go_sem, o1]
  · simp [go_sem, o2]
  · simp only [World.frozen?_setCell]; exact ofz j
  · simp [go_sem, x0]
  · simp [go_sem, x1]
  · simp [go_sem, x2]
  · simp only [World.frozen?_setCell]; exact xf j
theorem Nb.grown {W W' : World} {A : Nat} {N P C : Int} {row : Option Nat} (h : Nb W A N P C) (hg : W.grownBy W' row) (hne : some A ≠ row) : Nb W' A N P C := by
  have g := hg.block A h.lt hne
  exact ⟨(World.cell?_of_block (a := ⟨A, 0, none⟩) g).trans h.c0, (World.cell?_of_block (a := ⟨A, 1, none⟩) g).trans h.c1, (World.cell?_of_block (a := ⟨A, 2, none⟩) g).trans h.c2, Nat.lt_of_lt_of_le h.lt hg.size⟩
/-- What is handed back. -/
def RecsPost (s : ByteArray) (w : World) (e : Ending) (w' : World) : Prop := ∃ k c v, e = .returned (.agg #[v, .int .i64 (seqA s k : Int), .int .i64 c]) ∧ RecsIs s k c ∧ w'.ownsRow w.heap.size 9 1 v k (textsC (recT s) k) ∧ Below w.heap.size w w'
def usedAt (w : World) (O : Nat) : Nat := match w.cell? ⟨O, 1, none⟩ with
  | some (.int _ n) => n.toNat
  | _ => 0
end Go.Proofs.YthjanamnkhggfaaDoor
