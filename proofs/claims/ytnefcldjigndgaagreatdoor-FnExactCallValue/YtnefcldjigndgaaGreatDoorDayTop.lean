/- DayOf and DateOf of the program, and the laws that hold them against their models. -/
import Derived.Test.YtnefcldjigndgaaGreatDoorDateJ
namespace Go.Proofs.YtnefcldjigndgaaGreatDoor
open Go.RowKit

theorem Cal.new {w : World} {b : Nat} (h : b = w.heap.size) : Cal (w.alloc (.map #[] 0)) b 0 := by subst h; exact Cal.made w
theorem cell_at {w : World} {o : Obj} {cs : Array Value} {t : TypeId} {b : Nat} (hb : b = w.heap.size) (j : Nat) : ((w.alloc (.cells cs t)).alloc o).cell? ⟨b, j, none⟩ = cs[j]? := by
  subst hb
  rw [World.cell?_alloc_past _ _ _ (by simp), World.cell?_alloc_new]
theorem frozen_at {w : World} {o : Obj} {cs : Array Value} {t : TypeId} {b : Nat} (hb : b = w.heap.size) (j : Nat) : ((w.alloc (.cells cs t)).alloc o).frozen? ⟨b, j, none⟩ = false := by
  subst hb
  rw [World.frozen?_of_block (Below.heap_alloc _ _ _ (by simp))]; simp
theorem dayOfB_zero (y m d : Int) : (dayOfB y m d).2 ≠ 0 → (dayOfB y m d).1 = 0 := by unfold dayOfB; split <;> simp


end Go.Proofs.YtnefcldjigndgaaGreatDoor
