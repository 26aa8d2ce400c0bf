/- DayOf and DateOf of the program, and the laws that hold them against their models. -/
import Derived.Test.YtgbkpifkmkjbaaaDoorDateJ
namespace Go.Proofs.YtgbkpifkmkjbaaaDoor
open Go.RowKit

theorem Cal.new {w : World} {b : Nat} (h : b = w.heap.size) : Cal (w.alloc (.map #[] 0)) b 0 := by subst h; exact Cal.made w
theorem cell_at {w : World} {o : Obj} {cs : Array Value} {t : TypeId} {b : Nat} (hb : b = w.heap.size) (j : Nat) : ((w.alloc (.cells cs t)).alloc o).cell? ⟨b, j, none⟩ = cs[j]? := by
  subst hb
  rw [World.cell?_alloc_past _ _ _ (by simp), World.cell?_alloc_new]
theorem frozen_at {w : World} {o : Obj} {cs : Array Value} {t : TypeId} {b : Nat} (hb : b = w.heap.size) (j : Nat) : ((w.alloc (.cells cs t)).alloc o).frozen? ⟨b, j, none⟩ = false := by
  subst hb
  rw [World.frozen?_of_block (Below.heap_alloc _ _ _ (by simp))]; simp
theorem dayOfB_zero (y m d : Int) : (dayOfB y m d).2 ≠ 0 → (dayOfB y m d).1 = 0 := by unfold dayOfB; split <;> simp

set_option maxRecDepth 100000 in
set_option maxHeartbeats 1000000 in
theorem impl_dayOf (y m d : Int) (w : World) (hM : Mon w) (hL : Lay w) :
    Calls Tryd.prog 35 #[.agg #[.int .i64 y, .int .i64 m, .int .i64 d]] w fun e w' => e = .returned (moneyV (dayOfB y m d)) ∧ Below w.heap.size w w' := by
  have hmm := @run_makeMap Tryd.prog
  have hz := dayOfB_zero y m d
  have hlt := hM.lt
  have H1 : Hid (∀ b w, Cal w b 0 → Mon w → 2 ≠ b → Calls Tryd.prog 78 #[.map (some b), .agg #[.int .i64 y, .int .i64 m, .int .i64 d]] w fun e w' => e = .returned (tupV (dayOfB y m d)) ∧ Cal w' b (0 + 1) ∧ w.grownBy w' (some b)) := fun b w hC hM hG => impl_day y m d b 0 (by omega) w hC hM hG
  generalize dayOfB y m d = r at *
  have HM : Hid (Mon w) := hM
  have HL : Hid (Lay w) := hL
  have HZ : Hid (r.2 ≠ 0 → r.1 = 0) := hz
  clear hM hL hz
  go_enter Tryd.func35, Tryd.ntmps35
  go_wp2_with fail
  refine (H1.out _ _ (Cal.new (by simp)) (by exact ((HM.out.alloc _).alloc _).alloc _) (by first | omega | (simp; omega))).mono ?_
  rintro e w1 ⟨rfl, _, hg1⟩
  simp only [tupV]
  have c0 : ∀ j, w1.cell? ⟨w.heap.size + 1, j, none⟩ = (#[Value.int .i64 0, .int .i64 0] : Array Value)[j]? := fun j =>
    (World.cell?_of_block (hg1.block (w.heap.size + 1) (by simp) (by simp))).trans (cell_at (by simp) j)
  have f0 : ∀ j, w1.frozen? ⟨w.heap.size + 1, j, none⟩ = false := fun j =>
    (World.frozen?_of_block (hg1.block (w.heap.size + 1) (by simp) (by simp))).trans (frozen_at (by simp) j)
  have hs1 : w.heap.size + 2 < w1.heap.size := by have := hg1.size; simp at this; omega
  have HB1 : Hid (Below w.heap.size w w1) := Below.grown (by repeat (first | exact Below.refl _ _ | refine Below.alloc ?_ (by simp <;> omega) _)) hg1 (by simp <;> omega) (fun k hk => by cases hk; first | omega | (simp; done) | (simp; omega))
  clear hg1
  go_wp2_with fail
  refine (dout_any r HZ.out _ (by exact HL.out.below HB1.out)).mono ?_
  rintro e w2 ⟨rfl, hb⟩
  simp only [moneyV]
  have c1 : ∀ j, w2.cell? ⟨w.heap.size + 1, j, none⟩ = (#[Value.int .i64 0, .int .i64 0] : Array Value)[j]? := fun j => by
    rw [hb.cell (p := ⟨w.heap.size + 1, j, none⟩) (by show w.heap.size + 1 < w1.heap.size; omega)]; exact c0 j
  have f1 : ∀ j, w2.frozen? ⟨w.heap.size + 1, j, none⟩ = false := fun j => by
    rw [hb.frozen (p := ⟨w.heap.size + 1, j, none⟩) (by show w.heap.size + 1 < w1.heap.size; omega)]; exact f0 j
  have HB2 : Hid (Below w.heap.size w w2) := HB1.out.trans (hb.mono HB1.out.size)
  clear hb c0 f0
  go_wp2_with fail
  refine bodyPost_ret (v := moneyV r) ?_ rfl ⟨rfl, ?_⟩
  · simp [results, Tryd.results35, go_sem, c1, moneyV]
  · repeat (first | exact HB2.out | refine Below.setCell ?_ (by simp) _)

set_option maxRecDepth 100000 in
set_option maxHeartbeats 1000000 in
theorem impl_dateOf (day : Int) (w : World) (hM : Mon w) :
    Calls Tryd.prog 33 #[.int .i64 day] w fun e w' => e = .returned (dateV (dateOfB day)) ∧ Below w.heap.size w w' := by
  have hmm := @run_makeMap Tryd.prog
  have hlt := hM.lt
  cases hr : dayRB day
  · have HR : Hid (dateOfB day = (0, 0, 0)) := by simp [Hid, dateOfB, hr]
    have H : Hid (dayRB day = false) := hr
    clear hr hM
    go_enter Tryd.func33, Tryd.ntmps33
    go_wp2_with fail
    refine (impl_dayRight _ _).mono ?_
    rintro e w1 ⟨rfl, rfl⟩
    rw [H.out]
    go_wp2_with fail
    refine bodyPost_ret (v := dateV (dateOfB day)) ?_ rfl ⟨rfl, ?_⟩
    · rw [HR.out]
      simp [results, Tryd.results33, go_sem, dateV]
    · repeat (first | exact Below.refl _ _ | refine Below.setCell ?_ (by simp) _ | refine Below.alloc ?_ (by simp) _)
  have HR : Hid (dateOfB day = dateB day) := by simp [Hid, dateOfB, hr]
  have H : Hid (dayRB day = true) := hr
  obtain ⟨d0, d1⟩ := (dayRB_iff day).1 hr
  have H1 : Hid (∀ b w, Cal w b 0 → Mon w → 2 ≠ b → Calls Tryd.prog 73 #[.map (some b), .int .i64 day] w fun e w' => e = .returned (dateV (dateB day)) ∧ Cal w' b (0 + 2) ∧ w.grownBy w' (some b)) := fun b w hC hM hG => impl_date day d0 d1 b 0 (by omega) w hC hM hG
  generalize dateB day = r at *
  have HM : Hid (Mon w) := hM
  clear hr hM
  go_enter Tryd.func33, Tryd.ntmps33
  go_wp2_with fail
  refine (impl_dayRight _ _).mono ?_
  rintro e w1 ⟨rfl, rfl⟩
  rw [H.out]
  go_wp2_with fail
  refine (H1.out _ _ (Cal.new (by simp)) (by exact (HM.out.alloc _).alloc _) (by first | omega | (simp; omega))).mono ?_
  rintro e w2 ⟨rfl, _, hg1⟩
  simp only [dateV]
  have c1 : ∀ j, w2.cell? ⟨w.heap.size, j, none⟩ = (#[Value.int .i64 0, .int .i64 0, .int .i64 0] : Array Value)[j]? := fun j =>
    (World.cell?_of_block (hg1.block w.heap.size (by simp <;> omega) (by simp <;> omega))).trans (cell_at rfl j)
  have f1 : ∀ j, w2.frozen? ⟨w.heap.size, j, none⟩ = false := fun j =>
    (World.frozen?_of_block (hg1.block w.heap.size (by simp <;> omega) (by simp <;> omega))).trans (frozen_at rfl j)
  have HB2 : Hid (Below w.heap.size w w2) := Below.grown (by repeat (first | exact Below.refl _ _ | refine Below.alloc ?_ (by simp <;> omega) _)) hg1 (by simp <;> omega) (fun k hk => by cases hk; first | omega | (simp; done) | (simp; omega))
  clear hg1
  go_wp2_with fail
  refine bodyPost_ret (v := dateV (dateOfB day)) ?_ rfl ⟨rfl, ?_⟩
  · rw [HR.out]
    simp [results, Tryd.results33, go_sem, c1, dateV]
  · repeat (first | exact HB2.out | refine Below.setCell ?_ (by simp) _)
end Go.Proofs.YtgbkpifkmkjbaaaDoor
