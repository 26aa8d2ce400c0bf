/- The law FnMonths: what its call does. -/
import Derived.Test.YtgkfjopbcphnhaaDoorDrawD
import Derived.Test.YtgkfjopbcphnhaaDoorDayFacts
import Derived.Test.YtgkfjopbcphnhaaDoorDayAdd
import Derived.Test.YtgkfjopbcphnhaaDoorDayAddI
import Derived.Deep.DeepCutAuto
namespace Go.Proofs.YtgkfjopbcphnhaaDoor
open Go.RowKit

theorem keep {W w1 : World} (hb : Below W.heap.size W w1) {g : Nat} {cs : Array Value} (hg : g < W.heap.size) (h : ∀ j, W.cell? ⟨g, j, none⟩ = cs[j]?) : ∀ j, w1.cell? ⟨g, j, none⟩ = cs[j]? := fun j => (hb.cell (p := ⟨g, j, none⟩) hg).trans (h j)
theorem new_cells {w1 w2 : World} {cs : Array Value} {t : TypeId} (hb : Below (w1.alloc (.cells cs t)).heap.size (w1.alloc (.cells cs t)) w2) : ∀ j, w2.cell? ⟨w1.heap.size, j, none⟩ = cs[j]? := fun j =>
  (hb.cell (p := ⟨w1.heap.size, j, none⟩) (by simp)).trans (World.cell?_alloc_new _ _ _ _)
theorem past_cells {w1 : World} {o : Obj} {g : Nat} {cs : Array Value} (hg : g < w1.heap.size) (h : ∀ j, w1.cell? ⟨g, j, none⟩ = cs[j]?) : ∀ j, (w1.alloc o).cell? ⟨g, j, none⟩ = cs[j]? := fun j => by rw [World.cell?_alloc_past _ _ _ hg]; exact h j
theorem drew_new {w1 w2 : World} {cs : Array Value} {t : TypeId} (hb : Below (w1.alloc (.cells cs t)).drew.heap.size (w1.alloc (.cells cs t)).drew w2) : w1.heap.size < w2.heap.size ∧ ∀ j, w2.cell? ⟨w1.heap.size, j, none⟩ = cs[j]? := by
  have hb' : Below (w1.alloc (.cells cs t)).heap.size (w1.alloc (.cells cs t)) w2 := ⟨hb.os, hb.tape, hb.output, hb.size, hb.block⟩
  exact ⟨by have h := hb'.size; simp at h; omega, new_cells hb'⟩
theorem drew_keep {w1 w2 : World} {o : Obj} {g : Nat} {cs : Array Value} (hb : Below (w1.alloc o).drew.heap.size (w1.alloc o).drew w2) (hg : g < w1.heap.size) (h : ∀ j, w1.cell? ⟨g, j, none⟩ = cs[j]?) : ∀ j, w2.cell? ⟨g, j, none⟩ = cs[j]? := fun j => by
  rw [hb.cell (p := ⟨g, j, none⟩) (by show g < (w1.alloc o).heap.size; simp; omega)]
  show (w1.alloc o).cell? _ = _
  rw [World.cell?_alloc_past _ _ _ hg]; exact h j

end Go.Proofs.YtgkfjopbcphnhaaDoor
