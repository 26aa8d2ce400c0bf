/- The laws that hold DayOf, DateOf, DayAdd and Span against their models. -/
import Derived.Test.YtgbkpifkmkjbaabDoorDayAddI
import Derived.Test.YtgbkpifkmkjbaabDoorSpan
namespace Go.Proofs.YtgbkpifkmkjbaabDoor
open Go.RowKit

set_option maxRecDepth 100000 in
set_option maxHeartbeats 4000000 in
theorem eq_day (n c : Int) (w : World) :
    Calls Tryd.prog 17 #[.agg #[.int .i64 n, .int .i64 c], .agg #[.int .i64 n, .int .i64 c]] w fun e w' => e = .returned (.bool true) ∧ Below w.heap.size w w' := by
  go_enter Tryd.func17, Tryd.ntmps17
  go_wp2
  go_ret
  exact ⟨rfl, ((Below.refl _ _).alloc (Nat.le_refl _) _).alloc (by simp) _⟩
set_option maxRecDepth 100000 in
set_option maxHeartbeats 4000000 in
theorem eq_date (y m d : Int) (w : World) :
    Calls Tryd.prog 20 #[.agg #[.int .i64 y, .int .i64 m, .int .i64 d], .agg #[.int .i64 y, .int .i64 m, .int .i64 d]] w fun e w' => e = .returned (.bool true) ∧ Below w.heap.size w w' := by
  go_enter Tryd.func20, Tryd.ntmps20
  go_wp2
  go_ret
  exact ⟨rfl, ((Below.refl _ _).alloc (Nat.le_refl _) _).alloc (by simp) _⟩
set_option maxRecDepth 100000 in
set_option maxHeartbeats 4000000 in
theorem to_date (y m d : Int) (w : World) :
    Calls Tryd.prog 15 #[.agg #[.int .i64 y, .int .i64 m, .int .i64 d]] w fun e w' => e = .returned (.agg #[.int .i64 y, .int .i64 m, .int .i64 d]) ∧ Below w.heap.size w w' := by
  go_enter Tryd.func15, Tryd.ntmps15
  go_wp2
  refine bodyPost_ret (v := .agg #[.int .i64 y, .int .i64 m, .int .i64 d]) ?_ rfl ⟨rfl, ?_⟩
  · simp [results, Tryd.results15, go_sem]
  · repeat (first | exact Below.refl _ _ | refine Below.setCell ?_ (by simp <;> omega) _ | refine Below.alloc ?_ (by simp <;> omega) _)

set_option maxRecDepth 100000 in
set_option maxHeartbeats 1000000 in
theorem law_dayAdd (a : Int) (_ha : (Lit.int .i64 a).wf = true) (b : Int) (_hb : (Lit.int .i64 b).wf = true) (w : World) (hM : Mon w) (hL : Lay w) :
    Calls Tryd.prog 6 #[.int .i64 a, .int .i64 b] w fun e w' => e = .returned (.bool true) ∧ Below w.heap.size w w' := by
  have H1 := fun w => spec_dayAdd a b w
  have H2 := fun w hM hL => impl_dayAdd a b w hM hL
  generalize dayAddB a b = r at *
  have HL : Hid (Lay w) := hL
  have HM : Hid (Mon w) := hM
  clear hL hM
  have H1 : Hid (∀ w, Calls Tryd.prog 21 #[.int .i64 a, .int .i64 b] w fun e w' => e = .returned (moneyV r) ∧ Below w.heap.size w w') := H1
  have H2 : Hid (∀ w, Mon w → Lay w → Calls Tryd.prog 22 #[.int .i64 a, .int .i64 b] w fun e w' => e = .returned (moneyV r) ∧ Below w.heap.size w w') := H2
  obtain ⟨n, c⟩ := r
  go_enter Tryd.func6, Tryd.ntmps6
  go_wp2_with fail
  refine (H1.out _).mono ?_
  rintro e w1 ⟨rfl, hb1⟩
  simp only [moneyV]
  go_wp2_with fail
  refine (H2.out _ (by exact HM.out.below (hb1.alloc hb1.size _)) (by exact HL.out.below (hb1.alloc hb1.size _))).mono ?_
  rintro e w2 ⟨rfl, hb2⟩
  simp only [moneyV]
  have hz2 : w1.heap.size + 1 ≤ w2.heap.size := by have := hb2.size; simp at this; omega
  have hc0 : ∀ o, (w2.alloc o).cell? ⟨w1.heap.size, 0, none⟩ = some (.int .i64 n) := fun o => by
    rw [World.cell?_alloc_past _ _ _ (by omega), hb2.cell (by simp)]; simp
  have hc1 : ∀ o, (w2.alloc o).cell? ⟨w1.heap.size, 1, none⟩ = some (.int .i64 c) := fun o => by
    rw [World.cell?_alloc_past _ _ _ (by omega), hb2.cell (by simp)]; simp
  go_wp2_with fail
  refine (eq_day n c _).mono ?_
  rintro e w3 ⟨rfl, hb3⟩
  have hb : Below w.heap.size w w3 := by
    have hs1 := hb1.size
    exact (((hb1.alloc hs1 _).trans (hb2.mono (by simp; omega))).alloc (by omega) _).trans (hb3.mono (by simp; omega))
  clear hb1 hb2 hb3 hc0 hc1
  go_wp2_with fail
  go_ret
  exact ⟨rfl, hb⟩

set_option maxRecDepth 100000 in
set_option maxHeartbeats 1000000 in
theorem law_span (a : Int) (_ha : (Lit.int .i64 a).wf = true) (b : Int) (_hb : (Lit.int .i64 b).wf = true) (c : Int) (_hc : (Lit.int .i64 c).wf = true) (w : World) (hM : Mon w) (hL : Lay w) :
    Calls Tryd.prog 7 #[.int .i64 a, .int .i64 b, .int .i64 c] w fun e w' => e = .returned (.bool true) ∧ Below w.heap.size w w' := by
  have H1 := fun w => spec_span a b c w
  have H2 := fun w hM hL => impl_Span a b c w hM hL
  generalize spanB a b c = r at *
  have HL : Hid (Lay w) := hL
  have HM : Hid (Mon w) := hM
  clear hL hM
  have H1 : Hid (∀ w, Calls Tryd.prog 23 #[.int .i64 a, .int .i64 b, .int .i64 c] w fun e w' => e = .returned (moneyV r) ∧ Below w.heap.size w w') := H1
  have H2 : Hid (∀ w, Mon w → Lay w → Calls Tryd.prog 24 #[.int .i64 a, .int .i64 b, .int .i64 c] w fun e w' => e = .returned (moneyV r) ∧ Below w.heap.size w w') := H2
  obtain ⟨n, c'⟩ := r
  go_enter Tryd.func7, Tryd.ntmps7
  go_wp2_with fail
  refine (H1.out _).mono ?_
  rintro e w1 ⟨rfl, hb1⟩
  simp only [moneyV]
  go_wp2_with fail
  refine (H2.out _ (by exact HM.out.below (hb1.alloc hb1.size _)) (by exact HL.out.below (hb1.alloc hb1.size _))).mono ?_
  rintro e w2 ⟨rfl, hb2⟩
  simp only [moneyV]
  have hz2 : w1.heap.size + 1 ≤ w2.heap.size := by have := hb2.size; simp at this; omega
  have hc0 : ∀ o, (w2.alloc o).cell? ⟨w1.heap.size, 0, none⟩ = some (.int .i64 n) := fun o => by
    rw [World.cell?_alloc_past _ _ _ (by omega), hb2.cell (by simp)]; simp
  have hc1 : ∀ o, (w2.alloc o).cell? ⟨w1.heap.size, 1, none⟩ = some (.int .i64 c') := fun o => by
    rw [World.cell?_alloc_past _ _ _ (by omega), hb2.cell (by simp)]; simp
  go_wp2_with fail
  refine (eq_day n c' _).mono ?_
  rintro e w3 ⟨rfl, hb3⟩
  have hb : Below w.heap.size w w3 := by
    have hs1 := hb1.size
    exact (((hb1.alloc hs1 _).trans (hb2.mono (by simp; omega))).alloc (by omega) _).trans (hb3.mono (by simp; omega))
  clear hb1 hb2 hb3 hc0 hc1
  go_wp2_with fail
  go_ret
  exact ⟨rfl, hb⟩

set_option maxRecDepth 100000 in
set_option maxHeartbeats 1000000 in
theorem law_dateOf (a : Int) (_ha : (Lit.int .i64 a).wf = true) (w : World) (hM : Mon w) :
    Calls Tryd.prog 5 #[.int .i64 a] w fun e w' => e = .returned (.bool true) ∧ Below w.heap.size w w' := by
  have H1 := fun w => spec_dateOf a w
  have H2 := fun w hM => impl_dateOf a w hM
  generalize dateOfB a = r at *
  have HM : Hid (Mon w) := hM
  clear hM
  have H1 : Hid (∀ w, Calls Tryd.prog 18 #[.int .i64 a] w fun e w' => e = .returned (dateV r) ∧ Below w.heap.size w w') := H1
  have H2 : Hid (∀ w, Mon w → Calls Tryd.prog 19 #[.int .i64 a] w fun e w' => e = .returned (dateV r) ∧ Below w.heap.size w w') := H2
  obtain ⟨y, m, d⟩ := r
  go_enter Tryd.func5, Tryd.ntmps5
  go_wp2_with fail
  refine (H1.out _).mono ?_
  rintro e w1 ⟨rfl, hb1⟩
  simp only [dateV]
  go_wp2_with fail
  refine (H2.out _ (by exact HM.out.below (hb1.alloc hb1.size _))).mono ?_
  rintro e w2 ⟨rfl, hb2⟩
  simp only [dateV]
  have hz2 : w1.heap.size + 1 ≤ w2.heap.size := by have := hb2.size; simp at this; omega
  have hc0 : ∀ o, (w2.alloc o).cell? ⟨w1.heap.size, 0, none⟩ = some (.int .i64 y) := fun o => by
    rw [World.cell?_alloc_past _ _ _ (by omega), hb2.cell (by simp)]; simp
  have hc1 : ∀ o, (w2.alloc o).cell? ⟨w1.heap.size, 1, none⟩ = some (.int .i64 m) := fun o => by
    rw [World.cell?_alloc_past _ _ _ (by omega), hb2.cell (by simp)]; simp
  have hc2 : ∀ o, (w2.alloc o).cell? ⟨w1.heap.size, 2, none⟩ = some (.int .i64 d) := fun o => by
    rw [World.cell?_alloc_past _ _ _ (by omega), hb2.cell (by simp)]; simp
  go_wp2_with fail
  refine (eq_date y m d _).mono ?_
  rintro e w3 ⟨rfl, hb3⟩
  have hb : Below w.heap.size w w3 := by
    have hs1 := hb1.size
    exact (((hb1.alloc hs1 _).trans (hb2.mono (by simp; omega))).alloc (by omega) _).trans (hb3.mono (by simp; omega))
  clear hb1 hb2 hb3 hc0 hc1 hc2
  go_wp2_with fail
  go_ret
  exact ⟨rfl, hb⟩

set_option maxRecDepth 100000 in
set_option maxHeartbeats 1000000 in
theorem law_dayOf (y m d : Int) (w : World) (hM : Mon w) (hL : Lay w) :
    Calls Tryd.prog 4 #[.agg #[.int .i64 y, .int .i64 m, .int .i64 d]] w fun e w' => e = .returned (.bool true) ∧ Below w.heap.size w w' := by
  have H0 : Hid (∀ w, Calls Tryd.prog 15 #[.agg #[.int .i64 y, .int .i64 m, .int .i64 d]] w fun e w' => e = .returned (.agg #[.int .i64 y, .int .i64 m, .int .i64 d]) ∧ Below w.heap.size w w') := fun w => to_date y m d w
  have H1 := fun w => spec_dayOf y m d w
  have H2 := fun w hM hL => impl_dayOf y m d w hM hL
  generalize dayOfB y m d = r at *
  have HL : Hid (Lay w) := hL
  have HM : Hid (Mon w) := hM
  clear hL hM
  have H1 : Hid (∀ w, Calls Tryd.prog 14 #[.agg #[.int .i64 y, .int .i64 m, .int .i64 d]] w fun e w' => e = .returned (moneyV r) ∧ Below w.heap.size w w') := H1
  have H2 : Hid (∀ w, Mon w → Lay w → Calls Tryd.prog 16 #[.agg #[.int .i64 y, .int .i64 m, .int .i64 d]] w fun e w' => e = .returned (moneyV r) ∧ Below w.heap.size w w') := H2
  obtain ⟨n, c⟩ := r
  go_enter Tryd.func4, Tryd.ntmps4
  go_wp2_with fail
  refine (H0.out _).mono ?_
  rintro e w1 ⟨rfl, hb1⟩
  have hs1 : w.heap.size < w1.heap.size := by have := hb1.size; simp at this; omega
  have x1 : ∀ j, w1.cell? ⟨w.heap.size, j, none⟩ = (#[Value.int .i64 y, .int .i64 m, .int .i64 d] : Array Value)[j]? := fun j => by
    rw [hb1.cell (p := ⟨w.heap.size, j, none⟩) (by simp), World.cell?_alloc_new]
  have HB1 : Hid (Below w.heap.size w w1) := ((Below.refl _ _).alloc (Nat.le_refl _) _).trans (hb1.mono (by simp))
  clear hb1
  go_wp2_with fail
  refine (H1.out _).mono ?_
  rintro e w2 ⟨rfl, hb2⟩
  simp only [moneyV]
  have hs2 : w.heap.size < w2.heap.size := by have := hb2.size; omega
  have x2 : ∀ j, w2.cell? ⟨w.heap.size, j, none⟩ = (#[Value.int .i64 y, .int .i64 m, .int .i64 d] : Array Value)[j]? := fun j => by
    rw [hb2.cell (p := ⟨w.heap.size, j, none⟩) hs1]; exact x1 j
  have HB2 : Hid (Below w.heap.size w w2) := HB1.out.trans (hb2.mono HB1.out.size)
  clear hb2 x1
  go_wp2_with fail
  refine (H0.out _).mono ?_
  rintro e w3 ⟨rfl, hb3⟩
  have z3 : w2.heap.size < w3.heap.size := by have := hb3.size; simp at this; omega
  have c0 : w3.cell? ⟨w2.heap.size, 0, none⟩ = some (.int .i64 n) := by rw [hb3.cell (p := ⟨w2.heap.size, 0, none⟩) (by simp)]; simp
  have c1 : w3.cell? ⟨w2.heap.size, 1, none⟩ = some (.int .i64 c) := by rw [hb3.cell (p := ⟨w2.heap.size, 1, none⟩) (by simp)]; simp
  have HB3 : Hid (Below w.heap.size w w3) := (HB2.out.alloc HB2.out.size _).trans (hb3.mono (by simp; omega))
  clear hb3 x2
  go_wp2_with fail
  refine (H2.out _ (by exact HM.out.below HB3.out) (by exact HL.out.below HB3.out)).mono ?_
  rintro e w4 ⟨rfl, hb4⟩
  simp only [moneyV]
  have z4 : w2.heap.size < w4.heap.size := by have := hb4.size; omega
  have hc0 : ∀ o, (w4.alloc o).cell? ⟨w2.heap.size, 0, none⟩ = some (.int .i64 n) := fun o => by
    rw [World.cell?_alloc_past _ _ _ z4, hb4.cell (p := ⟨w2.heap.size, 0, none⟩) z3]; exact c0
  have hc1 : ∀ o, (w4.alloc o).cell? ⟨w2.heap.size, 1, none⟩ = some (.int .i64 c) := fun o => by
    rw [World.cell?_alloc_past _ _ _ z4, hb4.cell (p := ⟨w2.heap.size, 1, none⟩) z3]; exact c1
  have HB4 : Hid (Below w.heap.size w w4) := HB3.out.trans (hb4.mono HB3.out.size)
  clear hb4 c0 c1
  go_wp2_with fail
  refine (eq_day n c _).mono ?_
  rintro e w5 ⟨rfl, hb5⟩
  have HB5 : Hid (Below w.heap.size w w5) := (HB4.out.alloc HB4.out.size _).trans (hb5.mono (by have := HB4.out.size; simp; omega))
  clear hb5 hc0 hc1
  go_wp2_with fail
  go_ret
  exact ⟨rfl, HB5.out⟩
end Go.Proofs.YtgbkpifkmkjbaabDoor
