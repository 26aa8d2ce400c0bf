/- Rows of a plan held against each other, marked, and looked at again: what the laws' helpers do. -/
import Derived.Test.YtmeffdggpdojhaaDoorPlanP
import Derived.Test.YtmeffdggpdojhaaDoorPlanLaw
namespace Go.Proofs.YtmeffdggpdojhaaDoor
open Go.RowKit

/-- Cell i of row k. -/
def rowI (p r b s pay : Int) (k i : Nat) : Int := if i = 0 then dueI s (k + 1) else if i = 1 then intN r b s k (leftI p r b s pay k) else if i = 2 then min pay (leftI p r b s pay k + intN r b s k (leftI p r b s pay k)) else leftI p r b s pay (k + 1)
theorem rowC_at (p r b s pay : Int) (k i : Nat) (h : i < 4) : (rowC p r b s pay k)[i]? = some (.int .i64 (rowI p r b s pay k i)) := by
  rcases (by omega : i = 0 ∨ i = 1 ∨ i = 2 ∨ i = 3) with rfl | rfl | rfl | rfl <;> rfl
/-- Cell j of all rows. -/
def rowF (p r b s pay : Int) (j : Nat) : Int := rowI p r b s pay (j / 4) (j % 4)
theorem rowsC_cell (p r b s pay : Int) (n j : Nat) (h : j < n * 4) : (rowsC p r b s pay n)[j]? = some (.int .i64 (rowF p r b s pay j)) := by
  have := rowsC_at p r b s pay (j / 4) (j % 4) (by omega) n (by omega)
  rw [show j / 4 * 4 + j % 4 = j by omega, rowC_at _ _ _ _ _ _ _ (by omega)] at this
  exact this
/-- The rows in a block g, n of them, read so. -/
def RowsIs (w : World) (g n : Nat) (F : Nat → Int) : Prop := g < w.heap.size ∧ ∀ j, j < n * 4 → w.cell? ⟨g, j, none⟩ = some (.int .i64 (F j))
theorem RowsIs.below {w w' : World} {g n : Nat} {F : Nat → Int} (h : RowsIs w g n F) (hb : Below w.heap.size w w') : RowsIs w' g n F :=
  ⟨Nat.lt_of_lt_of_le h.1 hb.size, fun j hj => (hb.cell (p := ⟨g, j, none⟩) h.1).trans (h.2 j hj)⟩
theorem RowsIs.grown {w w' : World} {g n q : Nat} {F : Nat → Int} (h : RowsIs w g n F) (hg : w.grownBy w' (some q)) (hne : g ≠ q) : RowsIs w' g n F :=
  ⟨Nat.lt_of_lt_of_le h.1 hg.size, fun j hj => hg.cell (a := ⟨g, j, none⟩) (h.2 j hj) (by simpa using hne)⟩
theorem rows_own {w : World} {B g n cap : Nat} {p r b s pay : Int} (h : w.ownsRow B 37 4 (.slice (some ⟨g, 0, none⟩) n cap) n (rowsC p r b s pay n)) : RowsIs w g n (rowF p r b s pay) :=
  ⟨(h.lt g rfl).2, fun j hj => (h.cellAt j hj).trans (rowsC_cell p r b s pay n j hj)⟩


/-- What a marked row's cell reads: its number and one. -/
theorem mark_step {w : World} {g n I : Nat} {F : Nat → Int} (h : ∀ j, j < n * 4 → w.cell? ⟨g, j, none⟩ = some (.int .i64 (if j < I * 4 then (j : Int) + 1 else F j))) (hI : I < n) {x0 x1 x2 x3 : Int} (e0 : x0 = (I * 4 : Nat) + 1) (e1 : x1 = (I * 4 : Nat) + 2) (e2 : x2 = (I * 4 : Nat) + 3) (e3 : x3 = (I * 4 : Nat) + 4) :
    ∀ j, j < n * 4 → ((((w.setCell ⟨g, I * 4, none⟩ (.int .i64 x0)).setCell ⟨g, I * 4 + 1, none⟩ (.int .i64 x1)).setCell ⟨g, I * 4 + 2, none⟩ (.int .i64 x2)).setCell ⟨g, I * 4 + 3, none⟩ (.int .i64 x3)).cell? ⟨g, j, none⟩ = some (.int .i64 (if j < (I + 1) * 4 then (j : Int) + 1 else F j)) := by
  intro j hj
  have a0 := h (I * 4) (by omega)
  have a1 := h (I * 4 + 1) (by omega)
  have a2 := h (I * 4 + 2) (by omega)
  have a3 := h (I * 4 + 3) (by omega)
  rcases (by omega : j = I * 4 ∨ j = I * 4 + 1 ∨ j = I * 4 + 2 ∨ j = I * 4 + 3 ∨ (j ≠ I * 4 ∧ j ≠ I * 4 + 1 ∧ j ≠ I * 4 + 2 ∧ j ≠ I * 4 + 3)) with rfl | rfl | rfl | rfl | ⟨n0, n1, n2, n3⟩
  · rw [if_pos (by omega), e0]; simp [go_sem, a0]
  · rw [if_pos (by omega), e1]; simp [go_sem, a1]; omega
  · rw [if_pos (by omega), e2]; simp [go_sem, a2]; omega
  · rw [if_pos (by omega), e3]; simp [go_sem, a3]; omega
  · rw [World.cell?_setCell_other _ _ _ _ (by first | (simp; done) | (simp; omega)), World.cell?_setCell_other _ _ _ _ (by first | (simp; done) | (simp; omega)), World.cell?_setCell_other _ _ _ _ (by first | (simp; done) | (simp; omega)), World.cell?_setCell_other _ _ _ _ (by first | (simp; done) | (simp; omega)), h j hj]
    rcases (by omega : j < I * 4 ∨ (I + 1) * 4 ≤ j) with hl | hl
    · rw [if_pos hl, if_pos (by omega)]
    · rw [if_neg (by omega), if_neg (by omega)]
theorem set_grown {w wr : World} {g j : Nat} {u : Value} (h : w.grownBy wr (some g)) : w.grownBy (wr.setCell ⟨g, j, none⟩ u) (some g) := by
  refine ⟨h.os, h.tape, h.output, by simpa using h.size, fun k hk hne => ?_⟩
  rw [heap_setCell_other _ _ _ _ (by simpa using hne)]
  exact h.block k hk hne



theorem grown_box {w w1 : World} {o : Obj} {g : Nat} (h : (w.alloc o).grownBy w1 (some g)) : w.grownBy w1 (some g) := by
  refine ⟨h.os, h.tape, h.output, by have := h.size; simp at this; omega, fun k hk hne => (h.block k (by simp; omega) hne).trans ?_⟩
  exact ((Below.refl w.heap.size w).alloc (Nat.le_refl _) o).block k hk

end Go.Proofs.YtmeffdggpdojhaaDoor
