/- The law of BookBalance. -/
import Derived.Test.YtpabdapaegllnaaDoorBbI
namespace Go.Proofs.YtpabdapaegllnaaDoor
open Go.RowKit
open Go.Proofs.YtpabdapaegllnaaDoor.Draw

/-- Two cells of a block. -/
structure Bc (W : World) (b : Nat) (v u : Value) : Prop where
  c0 : W.cell? ⟨b, 0, none⟩ = some v
  c1 : W.cell? ⟨b, 1, none⟩ = some u
  lt : b < W.heap.size
theorem Bc.below {W W' : World} {b : Nat} {v u : Value} (h : Bc W b v u) (hb : Below W.heap.size W W') : Bc W' b v u :=
  ⟨(hb.cell (p := ⟨b, 0, none⟩) h.lt).trans h.c0, (hb.cell (p := ⟨b, 1, none⟩) h.lt).trans h.c1, Nat.lt_of_lt_of_le h.lt hb.size⟩
theorem Bc.new (w : World) (v u : Value) (t : TypeId) : Bc (w.alloc (.cells #[v, u] t)) w.heap.size v u := ⟨by simp, by simp, by simp⟩
/-- A new outcome's block. -/
structure Zm (W : World) (R : Nat) : Prop where
  c0 : W.cell? ⟨R, 0, none⟩ = some (.int .i64 0)
  c1 : W.cell? ⟨R, 1, none⟩ = some (.int .i64 0)
  fz : ∀ j, W.frozen? ⟨R, j, none⟩ = false
  lt : R < W.heap.size
theorem Zm.new (w : World) (t : TypeId) : Zm (w.alloc (.cells #[.int .i64 0, .int .i64 0] t)) w.heap.size := ⟨by simp, by simp, fun j => fnew' rfl j, by simp⟩
theorem Zm.newd (w : World) (t : TypeId) : Zm (w.alloc (.cells #[.int .i64 0, .int .i64 0] t)).drew w.heap.size := ⟨by simp, by simp, fun j => by show (w.alloc _).frozen? _ = false; exact fnew' rfl j, by show w.heap.size < (w.alloc _).heap.size; simp⟩
theorem Zm.below {W W' : World} {R : Nat} (h : Zm W R) (hb : Below W.heap.size W W') : Zm W' R :=
  ⟨(hb.cell (p := ⟨R, 0, none⟩) h.lt).trans h.c0, (hb.cell (p := ⟨R, 1, none⟩) h.lt).trans h.c1, fun j => (hb.frozen (p := ⟨R, j, none⟩) h.lt).trans (h.fz j), Nat.lt_of_lt_of_le h.lt hb.size⟩
theorem Zm.put {W : World} {R : Nat} (h : Zm W R) (u v : Value) : Bc ((W.setCell ⟨R, 0, none⟩ u).setCell ⟨R, 1, none⟩ v) R u v := by
  have a0 := h.c0
  have a1 := h.c1
  refine ⟨?_, ?_, by simpa using h.lt⟩
  · rw [World.cell?_setCell_other _ _ _ _ (by simp)]; simp [go_sem, a0]
  · have : (W.setCell ⟨R, 0, none⟩ u).cell? ⟨R, 1, none⟩ = some (.int .i64 0) := by rw [World.cell?_setCell_other _ _ _ _ (by simp)]; exact a1
    simp [go_sem, this]
theorem Bc.set2 {W : World} {b R : Nat} {v u x y : Value} (h : Bc W b v u) (hne : b ≠ R) : Bc ((W.setCell ⟨R, 0, none⟩ x).setCell ⟨R, 1, none⟩ y) b v u := by
  have hb := (setGrown (j := 1) (u := y) (setGrown (j := 0) (u := x) (World.grownBy.refl W (some R)))).block b h.lt (by simpa using hne)
  exact ⟨(World.cell?_of_block (a := ⟨b, 0, none⟩) hb).trans h.c0, (World.cell?_of_block (a := ⟨b, 1, none⟩) hb).trans h.c1, by simpa using h.lt⟩
theorem below_set2 {w W : World} {R : Nat} {x y : Value} (h : Below w.heap.size w W) (hR : w.heap.size ≤ R) : Below w.heap.size w ((W.setCell ⟨R, 0, none⟩ x).setCell ⟨R, 1, none⟩ y) := (h.setCell (by exact hR) _).setCell (by exact hR) _
theorem Own.set2 {W : World} {g N R : Nat} {F : Nat → Value} {x y : Value} (h : Own W g N F) (hne : g ≠ R) : Own ((W.setCell ⟨R, 0, none⟩ x).setCell ⟨R, 1, none⟩ y) g N F := (h.grown (setGrown (World.grownBy.refl _ _)) hne).grown (setGrown (World.grownBy.refl _ _)) hne
end Go.Proofs.YtpabdapaegllnaaDoor
