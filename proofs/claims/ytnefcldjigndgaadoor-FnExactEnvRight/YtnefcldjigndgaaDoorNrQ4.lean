/- The model's look at one node by its kind (spec.l07Shape): what the call does. -/
import Derived.Test.YtnefcldjigndgaaDoorNrP
namespace Go.Proofs.YtnefcldjigndgaaDoor
open Go.RowKit Go.Maps
open Go.Proofs.YtnefcldjigndgaaDoor.Draw

theorem node_23 (t m : ByteArray) (n y : Int) : nodeB ⟨23, t, m, n, y⟩ = (namR t && (namR m && ((n == 0) && (y == 1)))) := by
  show (decide (0 ≤ n) && (decide (n ≤ 0) && (decide (1 ≤ y) && (decide (y ≤ 1) && (namR t && namR m))))) = _
  skip
  try unfold emp
  rw [Bool.eq_iff_iff]
  simp only [Bool.and_eq_true, decide_eq_true_eq, beq_iff_eq]
  constructor
  · intro h
    refine ⟨?_, ?_, ?_, ?_⟩ <;> first | exact h.2.2.2.2.1 | exact h.2.2.2.2.2 | omega
  · intro h
    obtain ⟨e0, e1, e2, e3⟩ := h
    refine ⟨?_, ?_, ?_, ?_, ?_, ?_⟩ <;> first | omega | assumption
set_option maxRecDepth 100000 in
set_option maxHeartbeats 8000000 in
theorem shape_23 (t m : ByteArray) (n y : Int) (h1 : t.size ≤ maxLen) (h2 : m.size ≤ maxLen) (w : World) :
    Calls Tryd.prog 48 #[.agg #[.int .i64 23, .string t, .string m, .int .i64 n, .int .i64 y]] w fun e w' => e = .returned (.bool (nodeB ⟨23, t, m, n, y⟩)) ∧ Below w.heap.size w w' := by
  have HF : Hid (nodeB ⟨23, t, m, n, y⟩ = (namR t && (namR m && ((n == 0) && (y == 1))))) := node_23 t m n y
  have HB0 : Hid (Below w.heap.size w (w.alloc (.cells #[.int .i64 23, .string t, .string m, .int .i64 n, .int .i64 y] 60))) := (Below.refl _ _).alloc (Nat.le_refl _) _
  have HN : Hid (∀ W, Calls Tryd.prog 35 #[.string t] W fun e w' => e = .returned (.bool (namR t)) ∧ Below W.heap.size W w') := fun W => spec_namR t h1 W
  have HM : Hid (∀ W, Calls Tryd.prog 35 #[.string m] W fun e w' => e = .returned (.bool (namR m)) ∧ Below W.heap.size W w') := fun W => spec_namR m h2 W
  have hq := And.intro h1 h2
  clear hq h1 h2
  generalize namR t = N at *
  generalize namR m = N2 at *
  cases N
  · have hG : nodeB ⟨23, t, m, n, y⟩ = false := by rw [HF.out]; simp []
    have HG : Hid (nodeB ⟨23, t, m, n, y⟩ = false) := hG
    clear HF hG
    go_enter Tryd.func48, Tryd.ntmps48
    go_wp2_with fail
    refine (HN.out _).mono ?_
    rintro e w1 ⟨rfl, hb⟩
    have HB1 : Hid (Below w.heap.size w w1) := HB0.out.trans (hb.mono HB0.out.size)
    have d2 := (hb.cell (p := ⟨w.heap.size, 2, none⟩) (by simp)).trans (show (w.alloc (.cells #[.int .i64 23, .string t, .string m, .int .i64 n, .int .i64 y] 60)).cell? ⟨w.heap.size, 2, none⟩ = some (.string m) by simp)
    clear hb
    go_wp2_with fail
    go_ret
    exact ⟨ret_bool HG.out.symm, HB1.out⟩
  cases N2
  · have hG : nodeB ⟨23, t, m, n, y⟩ = false := by rw [HF.out]; simp []
    have HG : Hid (nodeB ⟨23, t, m, n, y⟩ = false) := hG
    clear HF hG
    go_enter Tryd.func48, Tryd.ntmps48
    go_wp2_with fail
    refine (HN.out _).mono ?_
    rintro e w1 ⟨rfl, hb⟩
    have HB1 : Hid (Below w.heap.size w w1) := HB0.out.trans (hb.mono HB0.out.size)
    have d2 := (hb.cell (p := ⟨w.heap.size, 2, none⟩) (by simp)).trans (show (w.alloc (.cells #[.int .i64 23, .string t, .string m, .int .i64 n, .int .i64 y] 60)).cell? ⟨w.heap.size, 2, none⟩ = some (.string m) by simp)
    clear hb
    go_wp2_with fail
    refine (HM.out _).mono ?_
    rintro e w2 ⟨rfl, hb⟩
    have HB2 : Hid (Below w.heap.size w w2) := HB1.out.trans (hb.mono HB1.out.size)
    clear hb
    go_wp2_with fail
    go_ret
    exact ⟨ret_bool HG.out.symm, HB2.out⟩
  cases h2 : (n == 0)
  · have hG : nodeB ⟨23, t, m, n, y⟩ = false := by rw [HF.out]; simp [h2]
    have HG : Hid (nodeB ⟨23, t, m, n, y⟩ = false) := hG
    clear HF hG
    go_enter Tryd.func48, Tryd.ntmps48
    go_wp2_with fail
    refine (HN.out _).mono ?_
    rintro e w1 ⟨rfl, hb⟩
    have HB1 : Hid (Below w.heap.size w w1) := HB0.out.trans (hb.mono HB0.out.size)
    have d2 := (hb.cell (p := ⟨w.heap.size, 2, none⟩) (by simp)).trans (show (w.alloc (.cells #[.int .i64 23, .string t, .string m, .int .i64 n, .int .i64 y] 60)).cell? ⟨w.heap.size, 2, none⟩ = some (.string m) by simp)
    clear hb
    go_wp2_with fail
    refine (HM.out _).mono ?_
    rintro e w2 ⟨rfl, hb⟩
    have HB2 : Hid (Below w.heap.size w w2) := HB1.out.trans (hb.mono HB1.out.size)
    clear hb
    go_wp2_with fail
    go_ret
    exact ⟨ret_bool HG.out.symm, HB2.out⟩
  cases h3 : (y == 1)
  · have hG : nodeB ⟨23, t, m, n, y⟩ = false := by rw [HF.out]; simp [h2, h3]
    have HG : Hid (nodeB ⟨23, t, m, n, y⟩ = false) := hG
    clear HF hG
    go_enter Tryd.func48, Tryd.ntmps48
    go_wp2_with fail
    refine (HN.out _).mono ?_
    rintro e w1 ⟨rfl, hb⟩
    have HB1 : Hid (Below w.heap.size w w1) := HB0.out.trans (hb.mono HB0.out.size)
    have d2 := (hb.cell (p := ⟨w.heap.size, 2, none⟩) (by simp)).trans (show (w.alloc (.cells #[.int .i64 23, .string t, .string m, .int .i64 n, .int .i64 y] 60)).cell? ⟨w.heap.size, 2, none⟩ = some (.string m) by simp)
    clear hb
    go_wp2_with fail
    refine (HM.out _).mono ?_
    rintro e w2 ⟨rfl, hb⟩
    have HB2 : Hid (Below w.heap.size w w2) := HB1.out.trans (hb.mono HB1.out.size)
    clear hb
    go_wp2_with fail
    go_ret
    exact ⟨ret_bool HG.out.symm, HB2.out⟩
  have hG : nodeB ⟨23, t, m, n, y⟩ = true := by rw [HF.out]; simp [h2, h3]
  have HG : Hid (nodeB ⟨23, t, m, n, y⟩ = true) := hG
  clear HF hG
  go_enter Tryd.func48, Tryd.ntmps48
  go_wp2_with fail
  refine (HN.out _).mono ?_
  rintro e w1 ⟨rfl, hb⟩
  have HB1 : Hid (Below w.heap.size w w1) := HB0.out.trans (hb.mono HB0.out.size)
  have d2 := (hb.cell (p := ⟨w.heap.size, 2, none⟩) (by simp)).trans (show (w.alloc (.cells #[.int .i64 23, .string t, .string m, .int .i64 n, .int .i64 y] 60)).cell? ⟨w.heap.size, 2, none⟩ = some (.string m) by simp)
  clear hb
  go_wp2_with fail
  refine (HM.out _).mono ?_
  rintro e w2 ⟨rfl, hb⟩
  have HB2 : Hid (Below w.heap.size w w2) := HB1.out.trans (hb.mono HB1.out.size)
  clear hb
  go_wp2_with fail
  go_ret
  exact ⟨ret_bool HG.out.symm, HB2.out⟩
theorem node_24 (t m : ByteArray) (n y : Int) : nodeB ⟨24, t, m, n, y⟩ = (m.toList.isEmpty && (t.toList.isEmpty && (decide (1 ≤ n) && (decide (n ≤ 99) && (y == 0))))) := by
  show (decide (1 ≤ n) && (decide (n ≤ 99) && (decide (0 ≤ y) && (decide (y ≤ 0) && (emp t && emp m))))) = _
  skip
  try unfold emp
  rw [Bool.eq_iff_iff]
  simp only [Bool.and_eq_true, decide_eq_true_eq, beq_iff_eq]
  constructor
  · intro h
    refine ⟨?_, ?_, ?_, ?_, ?_⟩ <;> first | exact h.2.2.2.2.1 | exact h.2.2.2.2.2 | omega
  · intro h
    obtain ⟨e0, e1, e2, e3, e4⟩ := h
    refine ⟨?_, ?_, ?_, ?_, ?_, ?_⟩ <;> first | omega | assumption
set_option maxRecDepth 100000 in
set_option maxHeartbeats 8000000 in
theorem shape_24 (t m : ByteArray) (n y : Int) (h1 : t.size ≤ maxLen) (h2 : m.size ≤ maxLen) (w : World) :
    Calls Tryd.prog 48 #[.agg #[.int .i64 24, .string t, .string m, .int .i64 n, .int .i64 y]] w fun e w' => e = .returned (.bool (nodeB ⟨24, t, m, n, y⟩)) ∧ Below w.heap.size w w' := by
  have HF : Hid (nodeB ⟨24, t, m, n, y⟩ = (m.toList.isEmpty && (t.toList.isEmpty && (decide (1 ≤ n) && (decide (n ≤ 99) && (y == 0)))))) := node_24 t m n y
  have HB0 : Hid (Below w.heap.size w (w.alloc (.cells #[.int .i64 24, .string t, .string m, .int .i64 n, .int .i64 y] 60))) := (Below.refl _ _).alloc (Nat.le_refl _) _
  have hq := And.intro h1 h2
  clear hq h1 h2
  cases h0 : m.toList.isEmpty
  · have hG : nodeB ⟨24, t, m, n, y⟩ = false := by rw [HF.out]; simp [h0]
    have HG : Hid (nodeB ⟨24, t, m, n, y⟩ = false) := hG
    clear HF hG
    go_enter Tryd.func48, Tryd.ntmps48
    go_wp2_with fail
    go_ret
    exact ⟨ret_bool HG.out.symm, HB0.out⟩
  cases h1 : t.toList.isEmpty
  · have hG : nodeB ⟨24, t, m, n, y⟩ = false := by rw [HF.out]; simp [h0, h1]
    have HG : Hid (nodeB ⟨24, t, m, n, y⟩ = false) := hG
    clear HF hG
    go_enter Tryd.func48, Tryd.ntmps48
    go_wp2_with fail
    go_ret
    exact ⟨ret_bool HG.out.symm, HB0.out⟩
  cases h2 : decide (1 ≤ n)
  · have hG : nodeB ⟨24, t, m, n, y⟩ = false := by rw [HF.out]; simp [h0, h1, h2]
    have HG : Hid (nodeB ⟨24, t, m, n, y⟩ = false) := hG
    clear HF hG
    go_enter Tryd.func48, Tryd.ntmps48
    go_wp2_with fail
    go_ret
    exact ⟨ret_bool HG.out.symm, HB0.out⟩
  cases h3 : decide (n ≤ 99)
  · have hG : nodeB ⟨24, t, m, n, y⟩ = false := by rw [HF.out]; simp [h0, h1, h2, h3]
    have HG : Hid (nodeB ⟨24, t, m, n, y⟩ = false) := hG
    clear HF hG
    go_enter Tryd.func48, Tryd.ntmps48
    go_wp2_with fail
    go_ret
    exact ⟨ret_bool HG.out.symm, HB0.out⟩
  cases h4 : (y == 0)
  · have hG : nodeB ⟨24, t, m, n, y⟩ = false := by rw [HF.out]; simp [h0, h1, h2, h3, h4]
    have HG : Hid (nodeB ⟨24, t, m, n, y⟩ = false) := hG
    clear HF hG
    go_enter Tryd.func48, Tryd.ntmps48
    go_wp2_with fail
    go_ret
    exact ⟨ret_bool HG.out.symm, HB0.out⟩
  have hG : nodeB ⟨24, t, m, n, y⟩ = true := by rw [HF.out]; simp [h0, h1, h2, h3, h4]
  have HG : Hid (nodeB ⟨24, t, m, n, y⟩ = true) := hG
  clear HF hG
  go_enter Tryd.func48, Tryd.ntmps48
  go_wp2_with fail
  go_ret
  exact ⟨ret_bool HG.out.symm, HB0.out⟩
theorem node_25 (t m : ByteArray) (n y : Int) : nodeB ⟨25, t, m, n, y⟩ = (m.toList.isEmpty && (t.toList.isEmpty && ((n == 0) && (y == 1)))) := by
  show (decide (0 ≤ n) && (decide (n ≤ 0) && (decide (1 ≤ y) && (decide (y ≤ 1) && (emp t && emp m))))) = _
  skip
  try unfold emp
  rw [Bool.eq_iff_iff]
  simp only [Bool.and_eq_true, decide_eq_true_eq, beq_iff_eq]
  constructor
  · intro h
    refine ⟨?_, ?_, ?_, ?_⟩ <;> first | exact h.2.2.2.2.1 | exact h.2.2.2.2.2 | omega
  · intro h
    obtain ⟨e0, e1, e2, e3⟩ := h
    refine ⟨?_, ?_, ?_, ?_, ?_, ?_⟩ <;> first | omega | assumption
set_option maxRecDepth 100000 in
set_option maxHeartbeats 8000000 in
theorem shape_25 (t m : ByteArray) (n y : Int) (h1 : t.size ≤ maxLen) (h2 : m.size ≤ maxLen) (w : World) :
    Calls Tryd.prog 48 #[.agg #[.int .i64 25, .string t, .string m, .int .i64 n, .int .i64 y]] w fun e w' => e = .returned (.bool (nodeB ⟨25, t, m, n, y⟩)) ∧ Below w.heap.size w w' := by
  have HF : Hid (nodeB ⟨25, t, m, n, y⟩ = (m.toList.isEmpty && (t.toList.isEmpty && ((n == 0) && (y == 1))))) := node_25 t m n y
  have HB0 : Hid (Below w.heap.size w (w.alloc (.cells #[.int .i64 25, .string t, .string m, .int .i64 n, .int .i64 y] 60))) := (Below.refl _ _).alloc (Nat.le_refl _) _
  have hq := And.intro h1 h2
  clear hq h1 h2
  cases h0 : m.toList.isEmpty
  · have hG : nodeB ⟨25, t, m, n, y⟩ = false := by rw [HF.out]; simp [h0]
    have HG : Hid (nodeB ⟨25, t, m, n, y⟩ = false) := hG
    clear HF hG
    go_enter Tryd.func48, Tryd.ntmps48
    go_wp2_with fail
    go_ret
    exact ⟨ret_bool HG.out.symm, HB0.out⟩
  cases h1 : t.toList.isEmpty
  · have hG : nodeB ⟨25, t, m, n, y⟩ = false := by rw [HF.out]; simp [h0, h1]
    have HG : Hid (nodeB ⟨25, t, m, n, y⟩ = false) := hG
    clear HF hG
    go_enter Tryd.func48, Tryd.ntmps48
    go_wp2_with fail
    go_ret
    exact ⟨ret_bool HG.out.symm, HB0.out⟩
  cases h2 : (n == 0)
  · have hG : nodeB ⟨25, t, m, n, y⟩ = false := by rw [HF.out]; simp [h0, h1, h2]
    have HG : Hid (nodeB ⟨25, t, m, n, y⟩ = false) := hG
    clear HF hG
    go_enter Tryd.func48, Tryd.ntmps48
    go_wp2_with fail
    go_ret
    exact ⟨ret_bool HG.out.symm, HB0.out⟩
  cases h3 : (y == 1)
  · have hG : nodeB ⟨25, t, m, n, y⟩ = false := by rw [HF.out]; simp [h0, h1, h2, h3]
    have HG : Hid (nodeB ⟨25, t, m, n, y⟩ = false) := hG
    clear HF hG
    go_enter Tryd.func48, Tryd.ntmps48
    go_wp2_with fail
    go_ret
    exact ⟨ret_bool HG.out.symm, HB0.out⟩
  have hG : nodeB ⟨25, t, m, n, y⟩ = true := by rw [HF.out]; simp [h0, h1, h2, h3]
  have HG : Hid (nodeB ⟨25, t, m, n, y⟩ = true) := hG
  clear HF hG
  go_enter Tryd.func48, Tryd.ntmps48
  go_wp2_with fail
  go_ret
  exact ⟨ret_bool HG.out.symm, HB0.out⟩
theorem node_26 (t m : ByteArray) (n y : Int) : nodeB ⟨26, t, m, n, y⟩ = (m.toList.isEmpty && (t.toList.isEmpty && ((n == 0) && (y == 2)))) := by
  show (decide (0 ≤ n) && (decide (n ≤ 0) && (decide (2 ≤ y) && (decide (y ≤ 2) && (emp t && emp m))))) = _
  skip
  try unfold emp
  rw [Bool.eq_iff_iff]
  simp only [Bool.and_eq_true, decide_eq_true_eq, beq_iff_eq]
  constructor
  · intro h
    refine ⟨?_, ?_, ?_, ?_⟩ <;> first | exact h.2.2.2.2.1 | exact h.2.2.2.2.2 | omega
  · intro h
    obtain ⟨e0, e1, e2, e3⟩ := h
    refine ⟨?_, ?_, ?_, ?_, ?_, ?_⟩ <;> first | omega | assumption
set_option maxRecDepth 100000 in
set_option maxHeartbeats 8000000 in
theorem shape_26 (t m : ByteArray) (n y : Int) (h1 : t.size ≤ maxLen) (h2 : m.size ≤ maxLen) (w : World) :
    Calls Tryd.prog 48 #[.agg #[.int .i64 26, .string t, .string m, .int .i64 n, .int .i64 y]] w fun e w' => e = .returned (.bool (nodeB ⟨26, t, m, n, y⟩)) ∧ Below w.heap.size w w' := by
  have HF : Hid (nodeB ⟨26, t, m, n, y⟩ = (m.toList.isEmpty && (t.toList.isEmpty && ((n == 0) && (y == 2))))) := node_26 t m n y
  have HB0 : Hid (Below w.heap.size w (w.alloc (.cells #[.int .i64 26, .string t, .string m, .int .i64 n, .int .i64 y] 60))) := (Below.refl _ _).alloc (Nat.le_refl _) _
  have hq := And.intro h1 h2
  clear hq h1 h2
  cases h0 : m.toList.isEmpty
  · have hG : nodeB ⟨26, t, m, n, y⟩ = false := by rw [HF.out]; simp [h0]
    have HG : Hid (nodeB ⟨26, t, m, n, y⟩ = false) := hG
    clear HF hG
    go_enter Tryd.func48, Tryd.ntmps48
    go_wp2_with fail
    go_ret
    exact ⟨ret_bool HG.out.symm, HB0.out⟩
  cases h1 : t.toList.isEmpty
  · have hG : nodeB ⟨26, t, m, n, y⟩ = false := by rw [HF.out]; simp [h0, h1]
    have HG : Hid (nodeB ⟨26, t, m, n, y⟩ = false) := hG
    clear HF hG
    go_enter Tryd.func48, Tryd.ntmps48
    go_wp2_with fail
    go_ret
    exact ⟨ret_bool HG.out.symm, HB0.out⟩
  cases h2 : (n == 0)
  · have hG : nodeB ⟨26, t, m, n, y⟩ = false := by rw [HF.out]; simp [h0, h1, h2]
    have HG : Hid (nodeB ⟨26, t, m, n, y⟩ = false) := hG
    clear HF hG
    go_enter Tryd.func48, Tryd.ntmps48
    go_wp2_with fail
    go_ret
    exact ⟨ret_bool HG.out.symm, HB0.out⟩
  cases h3 : (y == 2)
  · have hG : nodeB ⟨26, t, m, n, y⟩ = false := by rw [HF.out]; simp [h0, h1, h2, h3]
    have HG : Hid (nodeB ⟨26, t, m, n, y⟩ = false) := hG
    clear HF hG
    go_enter Tryd.func48, Tryd.ntmps48
    go_wp2_with fail
    go_ret
    exact ⟨ret_bool HG.out.symm, HB0.out⟩
  have hG : nodeB ⟨26, t, m, n, y⟩ = true := by rw [HF.out]; simp [h0, h1, h2, h3]
  have HG : Hid (nodeB ⟨26, t, m, n, y⟩ = true) := hG
  clear HF hG
  go_enter Tryd.func48, Tryd.ntmps48
  go_wp2_with fail
  go_ret
  exact ⟨ret_bool HG.out.symm, HB0.out⟩
theorem node_27 (t m : ByteArray) (n y : Int) : nodeB ⟨27, t, m, n, y⟩ = (m.toList.isEmpty && (t.toList.isEmpty && ((n == 0) && (decide (0 ≤ y) && decide (y ≤ 40))))) := by
  show (decide (0 ≤ n) && (decide (n ≤ 0) && (decide (0 ≤ y) && (decide (y ≤ 40) && (emp t && emp m))))) = _
  skip
  try unfold emp
  rw [Bool.eq_iff_iff]
  simp only [Bool.and_eq_true, decide_eq_true_eq, beq_iff_eq]
  constructor
  · intro h
    refine ⟨?_, ?_, ?_, ?_, ?_⟩ <;> first | exact h.2.2.2.2.1 | exact h.2.2.2.2.2 | omega
  · intro h
    obtain ⟨e0, e1, e2, e3, e4⟩ := h
    refine ⟨?_, ?_, ?_, ?_, ?_, ?_⟩ <;> first | omega | assumption
set_option maxRecDepth 100000 in
set_option maxHeartbeats 8000000 in
theorem shape_27 (t m : ByteArray) (n y : Int) (h1 : t.size ≤ maxLen) (h2 : m.size ≤ maxLen) (w : World) :
    Calls Tryd.prog 48 #[.agg #[.int .i64 27, .string t, .string m, .int .i64 n, .int .i64 y]] w fun e w' => e = .returned (.bool (nodeB ⟨27, t, m, n, y⟩)) ∧ Below w.heap.size w w' := by
  have HF : Hid (nodeB ⟨27, t, m, n, y⟩ = (m.toList.isEmpty && (t.toList.isEmpty && ((n == 0) && (decide (0 ≤ y) && decide (y ≤ 40)))))) := node_27 t m n y
  have HB0 : Hid (Below w.heap.size w (w.alloc (.cells #[.int .i64 27, .string t, .string m, .int .i64 n, .int .i64 y] 60))) := (Below.refl _ _).alloc (Nat.le_refl _) _
  have hq := And.intro h1 h2
  clear hq h1 h2
  cases h0 : m.toList.isEmpty
  · have hG : nodeB ⟨27, t, m, n, y⟩ = false := by rw [HF.out]; simp [h0]
    have HG : Hid (nodeB ⟨27, t, m, n, y⟩ = false) := hG
    clear HF hG
    go_enter Tryd.func48, Tryd.ntmps48
    go_wp2_with fail
    go_ret
    exact ⟨ret_bool HG.out.symm, HB0.out⟩
  cases h1 : t.toList.isEmpty
  · have hG : nodeB ⟨27, t, m, n, y⟩ = false := by rw [HF.out]; simp [h0, h1]
    have HG : Hid (nodeB ⟨27, t, m, n, y⟩ = false) := hG
    clear HF hG
    go_enter Tryd.func48, Tryd.ntmps48
    go_wp2_with fail
    go_ret
    exact ⟨ret_bool HG.out.symm, HB0.out⟩
  cases h2 : (n == 0)
  · have hG : nodeB ⟨27, t, m, n, y⟩ = false := by rw [HF.out]; simp [h0, h1, h2]
    have HG : Hid (nodeB ⟨27, t, m, n, y⟩ = false) := hG
    clear HF hG
    go_enter Tryd.func48, Tryd.ntmps48
    go_wp2_with fail
    go_ret
    exact ⟨ret_bool HG.out.symm, HB0.out⟩
  cases h3 : decide (0 ≤ y)
  · have hG : nodeB ⟨27, t, m, n, y⟩ = false := by rw [HF.out]; simp [h0, h1, h2, h3]
    have HG : Hid (nodeB ⟨27, t, m, n, y⟩ = false) := hG
    clear HF hG
    go_enter Tryd.func48, Tryd.ntmps48
    go_wp2_with fail
    go_ret
    exact ⟨ret_bool HG.out.symm, HB0.out⟩
  cases h4 : decide (y ≤ 40)
  · have hG : nodeB ⟨27, t, m, n, y⟩ = false := by rw [HF.out]; simp [h0, h1, h2, h3, h4]
    have HG : Hid (nodeB ⟨27, t, m, n, y⟩ = false) := hG
    clear HF hG
    go_enter Tryd.func48, Tryd.ntmps48
    go_wp2_with fail
    go_ret
    exact ⟨ret_bool HG.out.symm, HB0.out⟩
  have hG : nodeB ⟨27, t, m, n, y⟩ = true := by rw [HF.out]; simp [h0, h1, h2, h3, h4]
  have HG : Hid (nodeB ⟨27, t, m, n, y⟩ = true) := hG
  clear HF hG
  go_enter Tryd.func48, Tryd.ntmps48
  go_wp2_with fail
  go_ret
  exact ⟨ret_bool HG.out.symm, HB0.out⟩
end Go.Proofs.YtnefcldjigndgaaDoor
