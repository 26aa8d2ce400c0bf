/- Books and what is handed out beside a code: compared, marked, looked at again. -/
import Derived.Test.YtpabdapaegllnaaDoorLinesM
import Derived.Test.YtpabdapaegllnaaDoorBk1
import Derived.Test.YtpabdapaegllnaaDoorBkQ1
namespace Go.Proofs.YtpabdapaegllnaaDoor
open Go.RowKit
open Go.Proofs.YtpabdapaegllnaaDoor.Draw

/-- Two blocks may have turned. -/
structure Kb (w w' : World) (ra rb : Option Nat) : Prop where
  os : w'.os = w.os
  tape : w'.tape = w.tape
  output : w'.output = w.output
  size : w.heap.size ≤ w'.heap.size
  block : ∀ k, k < w.heap.size → some k ≠ ra → some k ≠ rb → w'.heap[k]? = w.heap[k]?
theorem Kb.of {w w1 w2 : World} {ra rb : Option Nat} (h : w.grownBy w1 ra) (h' : w1.grownBy w2 rb) : Kb w w2 ra rb :=
  ⟨h'.os.trans h.os, h'.tape.trans h.tape, h'.output.trans h.output, Nat.le_trans h.size h'.size, fun k hk h1 h2 => (h'.block k (Nat.lt_of_lt_of_le hk h.size) h2).trans (h.block k hk h1)⟩
theorem Kb.next {w w1 w2 : World} {ra rb : Option Nat} (h : Kb w w1 ra rb) (hb : Below w1.heap.size w1 w2) : Kb w w2 ra rb :=
  ⟨hb.os.trans h.os, hb.tape.trans h.tape, hb.output.trans h.output, Nat.le_trans h.size hb.size, fun k hk h1 h2 => (hb.block k (Nat.lt_of_lt_of_le hk h.size)).trans (h.block k hk h1 h2)⟩
theorem Kb.prev {w w1 w2 : World} {ra rb : Option Nat} (hb : Below w.heap.size w w1) (h : Kb w1 w2 ra rb) : Kb w w2 ra rb :=
  ⟨h.os.trans hb.os, h.tape.trans hb.tape, h.output.trans hb.output, Nat.le_trans hb.size h.size, fun k hk h1 h2 => (h.block k (Nat.lt_of_lt_of_le hk hb.size) h1 h2).trans (hb.block k hk)⟩
theorem Kb.own {w w' : World} {ra rb : Option Nat} {a : Option Addr} {n c : Nat} {F : Nat → Value} (h : Kb w w' ra rb) (ho : OwnR w a n c F) (h1 : ∀ k, a.map Addr.block = some k → some k ≠ ra) (h2 : ∀ k, a.map Addr.block = some k → some k ≠ rb) : OwnR w' a n c F := by
  rcases ho with e | ⟨g, rfl, ho⟩
  · exact Or.inl e
  · have hb := h.block g ho.1 (h1 g rfl) (h2 g rfl)
    exact Or.inr ⟨g, rfl, Nat.lt_of_lt_of_le ho.1 h.size, fun j hj => (World.cell?_of_block (a := ⟨g, j, none⟩) hb).trans (ho.2.1 j hj), fun j => (World.frozen?_of_block (a := ⟨g, j, none⟩) hb).trans (ho.2.2 j)⟩
theorem Kb.below {w0 w w' : World} {ra rb : Option Nat} {B : Nat} (hb : Below B w0 w) (h : Kb w w' ra rb) (hB : B ≤ w.heap.size) (h1 : ∀ k, ra = some k → B ≤ k) (h2 : ∀ k, rb = some k → B ≤ k) : Below B w0 w' :=
  ⟨h.os.trans hb.os, h.tape.trans hb.tape, h.output.trans hb.output, Nat.le_trans hb.size h.size, fun k hk => (h.block k (by omega) (fun e => by have := h1 k e.symm; omega) (fun e => by have := h2 k e.symm; omega)).trans (hb.block k hk)⟩
theorem Kb.cell {w w' : World} {ra rb : Option Nat} (h : Kb w w' ra rb) {b j : Nat} (hb : b < w.heap.size) (h1 : some b ≠ ra) (h2 : some b ≠ rb) : w'.cell? ⟨b, j, none⟩ = w.cell? ⟨b, j, none⟩ := World.cell?_of_block (a := ⟨b, j, none⟩) (h.block b hb h1 h2)
/-- A block of four cells. -/
structure D4 (W : World) (b : Nat) (v0 v1 v2 v3 : Value) : Prop where
  c0 : W.cell? ⟨b, 0, none⟩ = some v0
  c1 : W.cell? ⟨b, 1, none⟩ = some v1
  c2 : W.cell? ⟨b, 2, none⟩ = some v2
  c3 : W.cell? ⟨b, 3, none⟩ = some v3
  fz : ∀ j, W.frozen? ⟨b, j, none⟩ = false
  lt : b < W.heap.size
theorem D4.new (w : World) (v0 v1 v2 v3 : Value) (t : TypeId) : D4 (w.alloc (.cells #[v0, v1, v2, v3] t)) w.heap.size v0 v1 v2 v3 := ⟨by simp, by simp, by simp, by simp, fun j => fnew' rfl j, by simp⟩
theorem D4.below {W W' : World} {b : Nat} {v0 v1 v2 v3 : Value} (h : D4 W b v0 v1 v2 v3) (hb : Below W.heap.size W W') : D4 W' b v0 v1 v2 v3 :=
  ⟨(hb.cell (p := ⟨b, 0, none⟩) h.lt).trans h.c0, (hb.cell (p := ⟨b, 1, none⟩) h.lt).trans h.c1, (hb.cell (p := ⟨b, 2, none⟩) h.lt).trans h.c2, (hb.cell (p := ⟨b, 3, none⟩) h.lt).trans h.c3, fun j => (hb.frozen (p := ⟨b, j, none⟩) h.lt).trans (h.fz j), Nat.lt_of_lt_of_le h.lt hb.size⟩
theorem D4.kb {W W' : World} {b : Nat} {v0 v1 v2 v3 : Value} {ra rb : Option Nat} (h : D4 W b v0 v1 v2 v3) (hk : Kb W W' ra rb) (h1 : some b ≠ ra) (h2 : some b ≠ rb) : D4 W' b v0 v1 v2 v3 :=
  ⟨(hk.cell h.lt h1 h2).trans h.c0, (hk.cell h.lt h1 h2).trans h.c1, (hk.cell h.lt h1 h2).trans h.c2, (hk.cell h.lt h1 h2).trans h.c3, fun j => (World.frozen?_of_block (a := ⟨b, j, none⟩) (hk.block b h.lt h1 h2)).trans (h.fz j), Nat.lt_of_lt_of_le h.lt hk.size⟩
theorem D4.put {W : World} {b : Nat} {v0 v1 v2 v3 : Value} (h : D4 W b v0 v1 v2 v3) (u0 u1 u2 u3 : Value) : D4 ((((W.setCell ⟨b, 0, none⟩ u0).setCell ⟨b, 1, none⟩ u1).setCell ⟨b, 2, none⟩ u2).setCell ⟨b, 3, none⟩ u3) b u0 u1 u2 u3 := by
  have a0 := h.c0
  have a1 : (W.setCell ⟨b, 0, none⟩ u0).cell? ⟨b, 1, none⟩ = some v1 := by rw [World.cell?_setCell_other _ _ _ _ (by simp)]; exact h.c1
  have a2 : ((W.setCell ⟨b, 0, none⟩ u0).setCell ⟨b, 1, none⟩ u1).cell? ⟨b, 2, none⟩ = some v2 := by rw [World.cell?_setCell_other _ _ _ _ (by simp), World.cell?_setCell_other _ _ _ _ (by simp)]; exact h.c2
  have a3 : (((W.setCell ⟨b, 0, none⟩ u0).setCell ⟨b, 1, none⟩ u1).setCell ⟨b, 2, none⟩ u2).cell? ⟨b, 3, none⟩ = some v3 := by rw [World.cell?_setCell_other _ _ _ _ (by simp), World.cell?_setCell_other _ _ _ _ (by simp), World.cell?_setCell_other _ _ _ _ (by simp)]; exact h.c3
  refine ⟨?_, ?_, ?_, ?_, fun j => by simp only [World.frozen?_setCell]; exact h.fz j, by simpa using h.lt⟩
  · rw [World.cell?_setCell_other _ _ _ _ (by simp), World.cell?_setCell_other _ _ _ _ (by simp), World.cell?_setCell_other _ _ _ _ (by simp)]; simp [go_sem, a0]
  · rw [World.cell?_setCell_other _ _ _ _ (by simp), World.cell?_setCell_other _ _ _ _ (by simp)]; simp [go_sem, a1]
  · rw [World.cell?_setCell_other _ _ _ _ (by simp)]; simp [go_sem, a2]
  · simp [go_sem, a3]
theorem set4_grown (W : World) (b : Nat) (u0 u1 u2 u3 : Value) : W.grownBy ((((W.setCell ⟨b, 0, none⟩ u0).setCell ⟨b, 1, none⟩ u1).setCell ⟨b, 2, none⟩ u2).setCell ⟨b, 3, none⟩ u3) (some b) := setGrown (setGrown (setGrown (setGrown (World.grownBy.refl _ _))))
end Go.Proofs.YtpabdapaegllnaaDoor
