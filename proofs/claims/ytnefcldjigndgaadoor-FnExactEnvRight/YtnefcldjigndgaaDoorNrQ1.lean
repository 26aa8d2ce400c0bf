/- The model's look at one node by its kind (spec.l07Shape): what the call does. -/
import Derived.Test.YtnefcldjigndgaaDoorNrP
namespace Go.Proofs.YtnefcldjigndgaaDoor
open Go.RowKit Go.Maps
open Go.Proofs.YtnefcldjigndgaaDoor.Draw

theorem node_1 (t m : ByteArray) (n y : Int) : nodeB ⟨1, t, m, n, y⟩ = (m.toList.isEmpty && (t.toList.isEmpty && ((y == 0) && bndB 1 n))) := by
  show (decide ((-1000000000000) ≤ n) && (decide (n ≤ 1000000000000) && (decide (0 ≤ y) && (decide (y ≤ 0) && (emp t && emp m))))) = _
  show _ = (m.toList.isEmpty && (t.toList.isEmpty && ((y == 0) && (decide ((-1000000000000) ≤ n) && decide (n ≤ 1000000000000)))))
  try unfold emp
  rw [Bool.eq_iff_iff]
  simp only [Bool.and_eq_true, decide_eq_true_eq, beq_iff_eq]
  constructor
  · intro h
    refine ⟨?_, ?_, ?_, ?_, ?_⟩ <;> first | exact h.2.2.2.2.1 | exact h.2.2.2.2.2 | omega
  · intro h
    obtain ⟨e0, e1, e2, e3, e4⟩ := h
    refine ⟨?_, ?_, ?_, ?_, ?_, ?_⟩ <;> first | omega | assumption
set_option maxRecDepth 100000 in
set_option maxHeartbeats 8000000 in
theorem shape_1 (t m : ByteArray) (n y : Int) (h1 : t.size ≤ maxLen) (h2 : m.size ≤ maxLen) (w : World) :
    Calls Tryd.prog 48 #[.agg #[.int .i64 1, .string t, .string m, .int .i64 n, .int .i64 y]] w fun e w' => e = .returned (.bool (nodeB ⟨1, t, m, n, y⟩)) ∧ Below w.heap.size w w' := by
  have HF : Hid (nodeB ⟨1, t, m, n, y⟩ = (m.toList.isEmpty && (t.toList.isEmpty && ((y == 0) && bndB 1 n)))) := node_1 t m n y
  have HB0 : Hid (Below w.heap.size w (w.alloc (.cells #[.int .i64 1, .string t, .string m, .int .i64 n, .int .i64 y] 60))) := (Below.refl _ _).alloc (Nat.le_refl _) _
  have HN : Hid (∀ W, Calls Tryd.prog 54 #[.int .i64 1, .int .i64 n] W fun e w' => e = .returned (.bool (bndB 1 n)) ∧ Below W.heap.size W w') := fun W => (spec_bound 1 n W).mono fun e w' ⟨h1, h2⟩ => ⟨h1, by rw [h2]; exact Below.refl _ _⟩
  have hq := And.intro h1 h2
  clear hq h1 h2
  generalize bndB 1 n = N at *
  cases h0 : m.toList.isEmpty
  · have hG : nodeB ⟨1, t, m, n, y⟩ = false := by rw [HF.out]; simp [h0]
    have HG : Hid (nodeB ⟨1, t, m, n, y⟩ = false) := hG
    clear HF hG
    go_enter Tryd.func48, Tryd.ntmps48
    go_wp2_with fail
    go_ret
    exact ⟨ret_bool HG.out.symm, HB0.out⟩
  cases h1 : t.toList.isEmpty
  · have hG : nodeB ⟨1, t, m, n, y⟩ = false := by rw [HF.out]; simp [h0, h1]
    have HG : Hid (nodeB ⟨1, t, m, n, y⟩ = false) := hG
    clear HF hG
    go_enter Tryd.func48, Tryd.ntmps48
    go_wp2_with fail
    go_ret
    exact ⟨ret_bool HG.out.symm, HB0.out⟩
  cases h2 : (y == 0)
  · have hG : nodeB ⟨1, t, m, n, y⟩ = false := by rw [HF.out]; simp [h0, h1, h2]
    have HG : Hid (nodeB ⟨1, t, m, n, y⟩ = false) := hG
    clear HF hG
    go_enter Tryd.func48, Tryd.ntmps48
    go_wp2_with fail
    go_ret
    exact ⟨ret_bool HG.out.symm, HB0.out⟩
  cases N
  · have hG : nodeB ⟨1, t, m, n, y⟩ = false := by rw [HF.out]; simp [h0, h1, h2]
    have HG : Hid (nodeB ⟨1, t, m, n, y⟩ = false) := hG
    clear HF hG
    go_enter Tryd.func48, Tryd.ntmps48
    go_wp2_with fail
    refine (HN.out _).mono ?_
    rintro e w1 ⟨rfl, hb⟩
    have HB1 : Hid (Below w.heap.size w w1) := HB0.out.trans (hb.mono HB0.out.size)
    clear hb
    go_wp2_with fail
    go_ret
    exact ⟨ret_bool HG.out.symm, HB1.out⟩
  have hG : nodeB ⟨1, t, m, n, y⟩ = true := by rw [HF.out]; simp [h0, h1, h2]
  have HG : Hid (nodeB ⟨1, t, m, n, y⟩ = true) := hG
  clear HF hG
  go_enter Tryd.func48, Tryd.ntmps48
  go_wp2_with fail
  refine (HN.out _).mono ?_
  rintro e w1 ⟨rfl, hb⟩
  have HB1 : Hid (Below w.heap.size w w1) := HB0.out.trans (hb.mono HB0.out.size)
  clear hb
  go_wp2_with fail
  go_ret
  exact ⟨ret_bool HG.out.symm, HB1.out⟩
theorem node_2 (t m : ByteArray) (n y : Int) : nodeB ⟨2, t, m, n, y⟩ = (m.toList.isEmpty && (t.toList.isEmpty && ((y == 0) && bndB 2 n))) := by
  show (decide ((-1000000000000) ≤ n) && (decide (n ≤ 1000000000000) && (decide (0 ≤ y) && (decide (y ≤ 0) && (emp t && emp m))))) = _
  show _ = (m.toList.isEmpty && (t.toList.isEmpty && ((y == 0) && (decide ((-1000000000000) ≤ n) && decide (n ≤ 1000000000000)))))
  try unfold emp
  rw [Bool.eq_iff_iff]
  simp only [Bool.and_eq_true, decide_eq_true_eq, beq_iff_eq]
  constructor
  · intro h
    refine ⟨?_, ?_, ?_, ?_, ?_⟩ <;> first | exact h.2.2.2.2.1 | exact h.2.2.2.2.2 | omega
  · intro h
    obtain ⟨e0, e1, e2, e3, e4⟩ := h
    refine ⟨?_, ?_, ?_, ?_, ?_, ?_⟩ <;> first | omega | assumption
set_option maxRecDepth 100000 in
set_option maxHeartbeats 8000000 in
theorem shape_2 (t m : ByteArray) (n y : Int) (h1 : t.size ≤ maxLen) (h2 : m.size ≤ maxLen) (w : World) :
    Calls Tryd.prog 48 #[.agg #[.int .i64 2, .string t, .string m, .int .i64 n, .int .i64 y]] w fun e w' => e = .returned (.bool (nodeB ⟨2, t, m, n, y⟩)) ∧ Below w.heap.size w w' := by
  have HF : Hid (nodeB ⟨2, t, m, n, y⟩ = (m.toList.isEmpty && (t.toList.isEmpty && ((y == 0) && bndB 2 n)))) := node_2 t m n y
  have HB0 : Hid (Below w.heap.size w (w.alloc (.cells #[.int .i64 2, .string t, .string m, .int .i64 n, .int .i64 y] 60))) := (Below.refl _ _).alloc (Nat.le_refl _) _
  have HN : Hid (∀ W, Calls Tryd.prog 54 #[.int .i64 2, .int .i64 n] W fun e w' => e = .returned (.bool (bndB 2 n)) ∧ Below W.heap.size W w') := fun W => (spec_bound 2 n W).mono fun e w' ⟨h1, h2⟩ => ⟨h1, by rw [h2]; exact Below.refl _ _⟩
  have hq := And.intro h1 h2
  clear hq h1 h2
  generalize bndB 2 n = N at *
  cases h0 : m.toList.isEmpty
  · have hG : nodeB ⟨2, t, m, n, y⟩ = false := by rw [HF.out]; simp [h0]
    have HG : Hid (nodeB ⟨2, t, m, n, y⟩ = false) := hG
    clear HF hG
    go_enter Tryd.func48, Tryd.ntmps48
    go_wp2_with fail
    go_ret
    exact ⟨ret_bool HG.out.symm, HB0.out⟩
  cases h1 : t.toList.isEmpty
  · have hG : nodeB ⟨2, t, m, n, y⟩ = false := by rw [HF.out]; simp [h0, h1]
    have HG : Hid (nodeB ⟨2, t, m, n, y⟩ = false) := hG
    clear HF hG
    go_enter Tryd.func48, Tryd.ntmps48
    go_wp2_with fail
    go_ret
    exact ⟨ret_bool HG.out.symm, HB0.out⟩
  cases h2 : (y == 0)
  · have hG : nodeB ⟨2, t, m, n, y⟩ = false := by rw [HF.out]; simp [h0, h1, h2]
    have HG : Hid (nodeB ⟨2, t, m, n, y⟩ = false) := hG
    clear HF hG
    go_enter Tryd.func48, Tryd.ntmps48
    go_wp2_with fail
    go_ret
    exact ⟨ret_bool HG.out.symm, HB0.out⟩
  cases N
  · have hG : nodeB ⟨2, t, m, n, y⟩ = false := by rw [HF.out]; simp [h0, h1, h2]
    have HG : Hid (nodeB ⟨2, t, m, n, y⟩ = false) := hG
    clear HF hG
    go_enter Tryd.func48, Tryd.ntmps48
    go_wp2_with fail
    refine (HN.out _).mono ?_
    rintro e w1 ⟨rfl, hb⟩
    have HB1 : Hid (Below w.heap.size w w1) := HB0.out.trans (hb.mono HB0.out.size)
    clear hb
    go_wp2_with fail
    go_ret
    exact ⟨ret_bool HG.out.symm, HB1.out⟩
  have hG : nodeB ⟨2, t, m, n, y⟩ = true := by rw [HF.out]; simp [h0, h1, h2]
  have HG : Hid (nodeB ⟨2, t, m, n, y⟩ = true) := hG
  clear HF hG
  go_enter Tryd.func48, Tryd.ntmps48
  go_wp2_with fail
  refine (HN.out _).mono ?_
  rintro e w1 ⟨rfl, hb⟩
  have HB1 : Hid (Below w.heap.size w w1) := HB0.out.trans (hb.mono HB0.out.size)
  clear hb
  go_wp2_with fail
  go_ret
  exact ⟨ret_bool HG.out.symm, HB1.out⟩
theorem node_3 (t m : ByteArray) (n y : Int) : nodeB ⟨3, t, m, n, y⟩ = (m.toList.isEmpty && (t.toList.isEmpty && ((y == 0) && bndB 3 n))) := by
  show (decide (0 ≤ n) && (decide (n ≤ 1000000) && (decide (0 ≤ y) && (decide (y ≤ 0) && (emp t && emp m))))) = _
  show _ = (m.toList.isEmpty && (t.toList.isEmpty && ((y == 0) && (decide (0 ≤ n) && decide (n ≤ 1000000)))))
  try unfold emp
  rw [Bool.eq_iff_iff]
  simp only [Bool.and_eq_true, decide_eq_true_eq, beq_iff_eq]
  constructor
  · intro h
    refine ⟨?_, ?_, ?_, ?_, ?_⟩ <;> first | exact h.2.2.2.2.1 | exact h.2.2.2.2.2 | omega
  · intro h
    obtain ⟨e0, e1, e2, e3, e4⟩ := h
    refine ⟨?_, ?_, ?_, ?_, ?_, ?_⟩ <;> first | omega | assumption
set_option maxRecDepth 100000 in
set_option maxHeartbeats 8000000 in
theorem shape_3 (t m : ByteArray) (n y : Int) (h1 : t.size ≤ maxLen) (h2 : m.size ≤ maxLen) (w : World) :
    Calls Tryd.prog 48 #[.agg #[.int .i64 3, .string t, .string m, .int .i64 n, .int .i64 y]] w fun e w' => e = .returned (.bool (nodeB ⟨3, t, m, n, y⟩)) ∧ Below w.heap.size w w' := by
  have HF : Hid (nodeB ⟨3, t, m, n, y⟩ = (m.toList.isEmpty && (t.toList.isEmpty && ((y == 0) && bndB 3 n)))) := node_3 t m n y
  have HB0 : Hid (Below w.heap.size w (w.alloc (.cells #[.int .i64 3, .string t, .string m, .int .i64 n, .int .i64 y] 60))) := (Below.refl _ _).alloc (Nat.le_refl _) _
  have HN : Hid (∀ W, Calls Tryd.prog 54 #[.int .i64 3, .int .i64 n] W fun e w' => e = .returned (.bool (bndB 3 n)) ∧ Below W.heap.size W w') := fun W => (spec_bound 3 n W).mono fun e w' ⟨h1, h2⟩ => ⟨h1, by rw [h2]; exact Below.refl _ _⟩
  have hq := And.intro h1 h2
  clear hq h1 h2
  generalize bndB 3 n = N at *
  cases h0 : m.toList.isEmpty
  · have hG : nodeB ⟨3, t, m, n, y⟩ = false := by rw [HF.out]; simp [h0]
    have HG : Hid (nodeB ⟨3, t, m, n, y⟩ = false) := hG
    clear HF hG
    go_enter Tryd.func48, Tryd.ntmps48
    go_wp2_with fail
    go_ret
    exact ⟨ret_bool HG.out.symm, HB0.out⟩
  cases h1 : t.toList.isEmpty
  · have hG : nodeB ⟨3, t, m, n, y⟩ = false := by rw [HF.out]; simp [h0, h1]
    have HG : Hid (nodeB ⟨3, t, m, n, y⟩ = false) := hG
    clear HF hG
    go_enter Tryd.func48, Tryd.ntmps48
    go_wp2_with fail
    go_ret
    exact ⟨ret_bool HG.out.symm, HB0.out⟩
  cases h2 : (y == 0)
  · have hG : nodeB ⟨3, t, m, n, y⟩ = false := by rw [HF.out]; simp [h0, h1, h2]
    have HG : Hid (nodeB ⟨3, t, m, n, y⟩ = false) := hG
    clear HF hG
    go_enter Tryd.func48, Tryd.ntmps48
    go_wp2_with fail
    go_ret
    exact ⟨ret_bool HG.out.symm, HB0.out⟩
  cases N
  · have hG : nodeB ⟨3, t, m, n, y⟩ = false := by rw [HF.out]; simp [h0, h1, h2]
    have HG : Hid (nodeB ⟨3, t, m, n, y⟩ = false) := hG
    clear HF hG
    go_enter Tryd.func48, Tryd.ntmps48
    go_wp2_with fail
    refine (HN.out _).mono ?_
    rintro e w1 ⟨rfl, hb⟩
    have HB1 : Hid (Below w.heap.size w w1) := HB0.out.trans (hb.mono HB0.out.size)
    clear hb
    go_wp2_with fail
    go_ret
    exact ⟨ret_bool HG.out.symm, HB1.out⟩
  have hG : nodeB ⟨3, t, m, n, y⟩ = true := by rw [HF.out]; simp [h0, h1, h2]
  have HG : Hid (nodeB ⟨3, t, m, n, y⟩ = true) := hG
  clear HF hG
  go_enter Tryd.func48, Tryd.ntmps48
  go_wp2_with fail
  refine (HN.out _).mono ?_
  rintro e w1 ⟨rfl, hb⟩
  have HB1 : Hid (Below w.heap.size w w1) := HB0.out.trans (hb.mono HB0.out.size)
  clear hb
  go_wp2_with fail
  go_ret
  exact ⟨ret_bool HG.out.symm, HB1.out⟩
theorem node_4 (t m : ByteArray) (n y : Int) : nodeB ⟨4, t, m, n, y⟩ = (m.toList.isEmpty && (t.toList.isEmpty && ((y == 0) && bndB 4 n))) := by
  show (decide (0 ≤ n) && (decide (n ≤ 36524) && (decide (0 ≤ y) && (decide (y ≤ 0) && (emp t && emp m))))) = _
  show _ = (m.toList.isEmpty && (t.toList.isEmpty && ((y == 0) && (decide (0 ≤ n) && decide (n ≤ 36524)))))
  try unfold emp
  rw [Bool.eq_iff_iff]
  simp only [Bool.and_eq_true, decide_eq_true_eq, beq_iff_eq]
  constructor
  · intro h
    refine ⟨?_, ?_, ?_, ?_, ?_⟩ <;> first | exact h.2.2.2.2.1 | exact h.2.2.2.2.2 | omega
  · intro h
    obtain ⟨e0, e1, e2, e3, e4⟩ := h
    refine ⟨?_, ?_, ?_, ?_, ?_, ?_⟩ <;> first | omega | assumption
set_option maxRecDepth 100000 in
set_option maxHeartbeats 8000000 in
theorem shape_4 (t m : ByteArray) (n y : Int) (h1 : t.size ≤ maxLen) (h2 : m.size ≤ maxLen) (w : World) :
    Calls Tryd.prog 48 #[.agg #[.int .i64 4, .string t, .string m, .int .i64 n, .int .i64 y]] w fun e w' => e = .returned (.bool (nodeB ⟨4, t, m, n, y⟩)) ∧ Below w.heap.size w w' := by
  have HF : Hid (nodeB ⟨4, t, m, n, y⟩ = (m.toList.isEmpty && (t.toList.isEmpty && ((y == 0) && bndB 4 n)))) := node_4 t m n y
  have HB0 : Hid (Below w.heap.size w (w.alloc (.cells #[.int .i64 4, .string t, .string m, .int .i64 n, .int .i64 y] 60))) := (Below.refl _ _).alloc (Nat.le_refl _) _
  have HN : Hid (∀ W, Calls Tryd.prog 54 #[.int .i64 4, .int .i64 n] W fun e w' => e = .returned (.bool (bndB 4 n)) ∧ Below W.heap.size W w') := fun W => (spec_bound 4 n W).mono fun e w' ⟨h1, h2⟩ => ⟨h1, by rw [h2]; exact Below.refl _ _⟩
  have hq := And.intro h1 h2
  clear hq h1 h2
  generalize bndB 4 n = N at *
  cases h0 : m.toList.isEmpty
  · have hG : nodeB ⟨4, t, m, n, y⟩ = false := by rw [HF.out]; simp [h0]
    have HG : Hid (nodeB ⟨4, t, m, n, y⟩ = false) := hG
    clear HF hG
    go_enter Tryd.func48, Tryd.ntmps48
    go_wp2_with fail
    go_ret
    exact ⟨ret_bool HG.out.symm, HB0.out⟩
  cases h1 : t.toList.isEmpty
  · have hG : nodeB ⟨4, t, m, n, y⟩ = false := by rw [HF.out]; simp [h0, h1]
    have HG : Hid (nodeB ⟨4, t, m, n, y⟩ = false) := hG
    clear HF hG
    go_enter Tryd.func48, Tryd.ntmps48
    go_wp2_with fail
    go_ret
    exact ⟨ret_bool HG.out.symm, HB0.out⟩
  cases h2 : (y == 0)
  · have hG : nodeB ⟨4, t, m, n, y⟩ = false := by rw [HF.out]; simp [h0, h1, h2]
    have HG : Hid (nodeB ⟨4, t, m, n, y⟩ = false) := hG
    clear HF hG
    go_enter Tryd.func48, Tryd.ntmps48
    go_wp2_with fail
    go_ret
    exact ⟨ret_bool HG.out.symm, HB0.out⟩
  cases N
  · have hG : nodeB ⟨4, t, m, n, y⟩ = false := by rw [HF.out]; simp [h0, h1, h2]
    have HG : Hid (nodeB ⟨4, t, m, n, y⟩ = false) := hG
    clear HF hG
    go_enter Tryd.func48, Tryd.ntmps48
    go_wp2_with fail
    refine (HN.out _).mono ?_
    rintro e w1 ⟨rfl, hb⟩
    have HB1 : Hid (Below w.heap.size w w1) := HB0.out.trans (hb.mono HB0.out.size)
    clear hb
    go_wp2_with fail
    go_ret
    exact ⟨ret_bool HG.out.symm, HB1.out⟩
  have hG : nodeB ⟨4, t, m, n, y⟩ = true := by rw [HF.out]; simp [h0, h1, h2]
  have HG : Hid (nodeB ⟨4, t, m, n, y⟩ = true) := hG
  clear HF hG
  go_enter Tryd.func48, Tryd.ntmps48
  go_wp2_with fail
  refine (HN.out _).mono ?_
  rintro e w1 ⟨rfl, hb⟩
  have HB1 : Hid (Below w.heap.size w w1) := HB0.out.trans (hb.mono HB0.out.size)
  clear hb
  go_wp2_with fail
  go_ret
  exact ⟨ret_bool HG.out.symm, HB1.out⟩
theorem node_5 (t m : ByteArray) (n y : Int) : nodeB ⟨5, t, m, n, y⟩ = (m.toList.isEmpty && (t.toList.isEmpty && ((y == 0) && bndB 5 n))) := by
  show (decide (0 ≤ n) && (decide (n ≤ 1) && (decide (0 ≤ y) && (decide (y ≤ 0) && (emp t && emp m))))) = _
  show _ = (m.toList.isEmpty && (t.toList.isEmpty && ((y == 0) && (decide (0 ≤ n) && decide (n ≤ 1)))))
  try unfold emp
  rw [Bool.eq_iff_iff]
  simp only [Bool.and_eq_true, decide_eq_true_eq, beq_iff_eq]
  constructor
  · intro h
    refine ⟨?_, ?_, ?_, ?_, ?_⟩ <;> first | exact h.2.2.2.2.1 | exact h.2.2.2.2.2 | omega
  · intro h
    obtain ⟨e0, e1, e2, e3, e4⟩ := h
    refine ⟨?_, ?_, ?_, ?_, ?_, ?_⟩ <;> first | omega | assumption
set_option maxRecDepth 100000 in
set_option maxHeartbeats 8000000 in
theorem shape_5 (t m : ByteArray) (n y : Int) (h1 : t.size ≤ maxLen) (h2 : m.size ≤ maxLen) (w : World) :
    Calls Tryd.prog 48 #[.agg #[.int .i64 5, .string t, .string m, .int .i64 n, .int .i64 y]] w fun e w' => e = .returned (.bool (nodeB ⟨5, t, m, n, y⟩)) ∧ Below w.heap.size w w' := by
  have HF : Hid (nodeB ⟨5, t, m, n, y⟩ = (m.toList.isEmpty && (t.toList.isEmpty && ((y == 0) && bndB 5 n)))) := node_5 t m n y
  have HB0 : Hid (Below w.heap.size w (w.alloc (.cells #[.int .i64 5, .string t, .string m, .int .i64 n, .int .i64 y] 60))) := (Below.refl _ _).alloc (Nat.le_refl _) _
  have HN : Hid (∀ W, Calls Tryd.prog 54 #[.int .i64 5, .int .i64 n] W fun e w' => e = .returned (.bool (bndB 5 n)) ∧ Below W.heap.size W w') := fun W => (spec_bound 5 n W).mono fun e w' ⟨h1, h2⟩ => ⟨h1, by rw [h2]; exact Below.refl _ _⟩
  have hq := And.intro h1 h2
  clear hq h1 h2
  generalize bndB 5 n = N at *
  cases h0 : m.toList.isEmpty
  · have hG : nodeB ⟨5, t, m, n, y⟩ = false := by rw [HF.out]; simp [h0]
    have HG : Hid (nodeB ⟨5, t, m, n, y⟩ = false) := hG
    clear HF hG
    go_enter Tryd.func48, Tryd.ntmps48
    go_wp2_with fail
    go_ret
    exact ⟨ret_bool HG.out.symm, HB0.out⟩
  cases h1 : t.toList.isEmpty
  · have hG : nodeB ⟨5, t, m, n, y⟩ = false := by rw [HF.out]; simp [h0, h1]
    have HG : Hid (nodeB ⟨5, t, m, n, y⟩ = false) := hG
    clear HF hG
    go_enter Tryd.func48, Tryd.ntmps48
    go_wp2_with fail
    go_ret
    exact ⟨ret_bool HG.out.symm, HB0.out⟩
  cases h2 : (y == 0)
  · have hG : nodeB ⟨5, t, m, n, y⟩ = false := by rw [HF.out]; simp [h0, h1, h2]
    have HG : Hid (nodeB ⟨5, t, m, n, y⟩ = false) := hG
    clear HF hG
    go_enter Tryd.func48, Tryd.ntmps48
    go_wp2_with fail
    go_ret
    exact ⟨ret_bool HG.out.symm, HB0.out⟩
  cases N
  · have hG : nodeB ⟨5, t, m, n, y⟩ = false := by rw [HF.out]; simp [h0, h1, h2]
    have HG : Hid (nodeB ⟨5, t, m, n, y⟩ = false) := hG
    clear HF hG
    go_enter Tryd.func48, Tryd.ntmps48
    go_wp2_with fail
    refine (HN.out _).mono ?_
    rintro e w1 ⟨rfl, hb⟩
    have HB1 : Hid (Below w.heap.size w w1) := HB0.out.trans (hb.mono HB0.out.size)
    clear hb
    go_wp2_with fail
    go_ret
    exact ⟨ret_bool HG.out.symm, HB1.out⟩
  have hG : nodeB ⟨5, t, m, n, y⟩ = true := by rw [HF.out]; simp [h0, h1, h2]
  have HG : Hid (nodeB ⟨5, t, m, n, y⟩ = true) := hG
  clear HF hG
  go_enter Tryd.func48, Tryd.ntmps48
  go_wp2_with fail
  refine (HN.out _).mono ?_
  rintro e w1 ⟨rfl, hb⟩
  have HB1 : Hid (Below w.heap.size w w1) := HB0.out.trans (hb.mono HB0.out.size)
  clear hb
  go_wp2_with fail
  go_ret
  exact ⟨ret_bool HG.out.symm, HB1.out⟩
theorem node_6 (t m : ByteArray) (n y : Int) : nodeB ⟨6, t, m, n, y⟩ = (m.toList.isEmpty && (namR t && ((n == 0) && (y == 0)))) := by
  show (decide (0 ≤ n) && (decide (n ≤ 0) && (decide (0 ≤ y) && (decide (y ≤ 0) && (namR t && emp m))))) = _
  skip
  try unfold emp
  rw [Bool.eq_iff_iff]
  simp only [Bool.and_eq_true, decide_eq_true_eq, beq_iff_eq]
  constructor
  · intro h
    refine ⟨?_, ?_, ?_, ?_⟩ <;> first | exact h.2.2.2.2.1 | exact h.2.2.2.2.2 | omega
  · intro h
    obtain ⟨e0, e1, e2, e3⟩ := h
    refine ⟨?_, ?_, ?_, ?_, ?_, ?_⟩ <;> first | omega | assumption
set_option maxRecDepth 100000 in
set_option maxHeartbeats 8000000 in
theorem shape_6 (t m : ByteArray) (n y : Int) (h1 : t.size ≤ maxLen) (h2 : m.size ≤ maxLen) (w : World) :
    Calls Tryd.prog 48 #[.agg #[.int .i64 6, .string t, .string m, .int .i64 n, .int .i64 y]] w fun e w' => e = .returned (.bool (nodeB ⟨6, t, m, n, y⟩)) ∧ Below w.heap.size w w' := by
  have HF : Hid (nodeB ⟨6, t, m, n, y⟩ = (m.toList.isEmpty && (namR t && ((n == 0) && (y == 0))))) := node_6 t m n y
  have HB0 : Hid (Below w.heap.size w (w.alloc (.cells #[.int .i64 6, .string t, .string m, .int .i64 n, .int .i64 y] 60))) := (Below.refl _ _).alloc (Nat.le_refl _) _
  have HN : Hid (∀ W, Calls Tryd.prog 35 #[.string t] W fun e w' => e = .returned (.bool (namR t)) ∧ Below W.heap.size W w') := fun W => spec_namR t h1 W
  have hq := And.intro h1 h2
  clear hq h1 h2
  generalize namR t = N at *
  cases h0 : m.toList.isEmpty
  · have hG : nodeB ⟨6, t, m, n, y⟩ = false := by rw [HF.out]; simp [h0]
    have HG : Hid (nodeB ⟨6, t, m, n, y⟩ = false) := hG
    clear HF hG
    go_enter Tryd.func48, Tryd.ntmps48
    go_wp2_with fail
    go_ret
    exact ⟨ret_bool HG.out.symm, HB0.out⟩
  cases N
  · have hG : nodeB ⟨6, t, m, n, y⟩ = false := by rw [HF.out]; simp [h0]
    have HG : Hid (nodeB ⟨6, t, m, n, y⟩ = false) := hG
    clear HF hG
    go_enter Tryd.func48, Tryd.ntmps48
    go_wp2_with fail
    refine (HN.out _).mono ?_
    rintro e w1 ⟨rfl, hb⟩
    have HB1 : Hid (Below w.heap.size w w1) := HB0.out.trans (hb.mono HB0.out.size)
    clear hb
    go_wp2_with fail
    go_ret
    exact ⟨ret_bool HG.out.symm, HB1.out⟩
  cases h2 : (n == 0)
  · have hG : nodeB ⟨6, t, m, n, y⟩ = false := by rw [HF.out]; simp [h0, h2]
    have HG : Hid (nodeB ⟨6, t, m, n, y⟩ = false) := hG
    clear HF hG
    go_enter Tryd.func48, Tryd.ntmps48
    go_wp2_with fail
    refine (HN.out _).mono ?_
    rintro e w1 ⟨rfl, hb⟩
    have HB1 : Hid (Below w.heap.size w w1) := HB0.out.trans (hb.mono HB0.out.size)
    clear hb
    go_wp2_with fail
    go_ret
    exact ⟨ret_bool HG.out.symm, HB1.out⟩
  cases h3 : (y == 0)
  · have hG : nodeB ⟨6, t, m, n, y⟩ = false := by rw [HF.out]; simp [h0, h2, h3]
    have HG : Hid (nodeB ⟨6, t, m, n, y⟩ = false) := hG
    clear HF hG
    go_enter Tryd.func48, Tryd.ntmps48
    go_wp2_with fail
    refine (HN.out _).mono ?_
    rintro e w1 ⟨rfl, hb⟩
    have HB1 : Hid (Below w.heap.size w w1) := HB0.out.trans (hb.mono HB0.out.size)
    clear hb
    go_wp2_with fail
    go_ret
    exact ⟨ret_bool HG.out.symm, HB1.out⟩
  have hG : nodeB ⟨6, t, m, n, y⟩ = true := by rw [HF.out]; simp [h0, h2, h3]
  have HG : Hid (nodeB ⟨6, t, m, n, y⟩ = true) := hG
  clear HF hG
  go_enter Tryd.func48, Tryd.ntmps48
  go_wp2_with fail
  refine (HN.out _).mono ?_
  rintro e w1 ⟨rfl, hb⟩
  have HB1 : Hid (Below w.heap.size w w1) := HB0.out.trans (hb.mono HB0.out.size)
  clear hb
  go_wp2_with fail
  go_ret
  exact ⟨ret_bool HG.out.symm, HB1.out⟩
end Go.Proofs.YtnefcldjigndgaaDoor
