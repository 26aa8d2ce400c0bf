/- The model's look at one node by its kind (spec.l07Shape): what the call does. -/
import Derived.Test.YtnefcldjigndgaaDoorNrP
namespace Go.Proofs.YtnefcldjigndgaaDoor
open Go.RowKit Go.Maps
open Go.Proofs.YtnefcldjigndgaaDoor.Draw

theorem node_7 (t m : ByteArray) (n y : Int) : nodeB ⟨7, t, m, n, y⟩ = (m.toList.isEmpty && (namR t && ((n == 0) && (y == 0)))) := by
  show (decide (0 ≤ n) && (decide (n ≤ 0) && (decide (0 ≤ y) && (decide (y ≤ 0) && (namR t && emp m))))) = _
  skip
  try unfold emp
  rw [Bool.eq_iff_iff]
  simp only [Bool.and_eq_true, decide_eq_true_eq, beq_iff_eq]
  constructor
  · intro h
    refine ⟨?_, ?_, ?_, ?_⟩ <;> first | exact h.2.2.2.2.1 | exact h.2.2.2.2.2 | omega
  · intro h
    obtain ⟨e0, e1, e2, e3⟩ := h
    refine ⟨?_, ?_, ?_, ?_, ?_, ?_⟩ <;> first | omega | assumption
set_option maxRecDepth 100000 in
set_option maxHeartbeats 8000000 in
theorem shape_7 (t m : ByteArray) (n y : Int) (h1 : t.size ≤ maxLen) (h2 : m.size ≤ maxLen) (w : World) :
    Calls Tryd.prog 48 #[.agg #[.int .i64 7, .string t, .string m, .int .i64 n, .int .i64 y]] w fun e w' => e = .returned (.bool (nodeB ⟨7, t, m, n, y⟩)) ∧ Below w.heap.size w w' := by
  have HF : Hid (nodeB ⟨7, t, m, n, y⟩ = (m.toList.isEmpty && (namR t && ((n == 0) && (y == 0))))) := node_7 t m n y
  have HB0 : Hid (Below w.heap.size w (w.alloc (.cells #[.int .i64 7, .string t, .string m, .int .i64 n, .int .i64 y] 60))) := (Below.refl _ _).alloc (Nat.le_refl _) _
  have HN : Hid (∀ W, Calls Tryd.prog 35 #[.string t] W fun e w' => e = .returned (.bool (namR t)) ∧ Below W.heap.size W w') := fun W => spec_namR t h1 W
  have hq := And.intro h1 h2
  clear hq h1 h2
  generalize namR t = N at *
  cases h0 : m.toList.isEmpty
  · have hG : nodeB ⟨7, t, m, n, y⟩ = false := by rw [HF.out]; simp [h0]
    have HG : Hid (nodeB ⟨7, t, m, n, y⟩ = false) := hG
    clear HF hG
    go_enter Tryd.func48, Tryd.ntmps48
    go_wp2_with fail
    go_ret
    exact ⟨ret_bool HG.out.symm, HB0.out⟩
  cases N
  · have hG : nodeB ⟨7, t, m, n, y⟩ = false := by rw [HF.out]; simp [h0]
    have HG : Hid (nodeB ⟨7, t, m, n, y⟩ = false) := hG
    clear HF hG
    go_enter Tryd.func48, Tryd.ntmps48
    go_wp2_with fail
    refine (HN.out _).mono ?_
    rintro e w1 ⟨rfl, hb⟩
    have HB1 : Hid (Below w.heap.size w w1) := HB0.out.trans (hb.mono HB0.out.size)
    clear hb
    go_wp2_with fail
    go_ret
    exact ⟨ret_bool HG.out.symm, HB1.out⟩
  cases h2 : (n == 0)
  · have hG : nodeB ⟨7, t, m, n, y⟩ = false := by rw [HF.out]; simp [h0, h2]
    have HG : Hid (nodeB ⟨7, t, m, n, y⟩ = false) := hG
    clear HF hG
    go_enter Tryd.func48, Tryd.ntmps48
    go_wp2_with fail
    refine (HN.out _).mono ?_
    rintro e w1 ⟨rfl, hb⟩
    have HB1 : Hid (Below w.heap.size w w1) := HB0.out.trans (hb.mono HB0.out.size)
    clear hb
    go_wp2_with fail
    go_ret
    exact ⟨ret_bool HG.out.symm, HB1.out⟩
  cases h3 : (y == 0)
  · have hG : nodeB ⟨7, t, m, n, y⟩ = false := by rw [HF.out]; simp [h0, h2, h3]
    have HG : Hid (nodeB ⟨7, t, m, n, y⟩ = false) := hG
    clear HF hG
    go_enter Tryd.func48, Tryd.ntmps48
    go_wp2_with fail
    refine (HN.out _).mono ?_
    rintro e w1 ⟨rfl, hb⟩
    have HB1 : Hid (Below w.heap.size w w1) := HB0.out.trans (hb.mono HB0.out.size)
    clear hb
    go_wp2_with fail
    go_ret
    exact ⟨ret_bool HG.out.symm, HB1.out⟩
  have hG : nodeB ⟨7, t, m, n, y⟩ = true := by rw [HF.out]; simp [h0, h2, h3]
  have HG : Hid (nodeB ⟨7, t, m, n, y⟩ = true) := hG
  clear HF hG
  go_enter Tryd.func48, Tryd.ntmps48
  go_wp2_with fail
  refine (HN.out _).mono ?_
  rintro e w1 ⟨rfl, hb⟩
  have HB1 : Hid (Below w.heap.size w w1) := HB0.out.trans (hb.mono HB0.out.size)
  clear hb
  go_wp2_with fail
  go_ret
  exact ⟨ret_bool HG.out.symm, HB1.out⟩
theorem node_8 (t m : ByteArray) (n y : Int) : nodeB ⟨8, t, m, n, y⟩ = (m.toList.isEmpty && (t.toList.isEmpty && ((n == 0) && (y == 0)))) := by
  show (decide (0 ≤ n) && (decide (n ≤ 0) && (decide (0 ≤ y) && (decide (y ≤ 0) && (emp t && emp m))))) = _
  skip
  try unfold emp
  rw [Bool.eq_iff_iff]
  simp only [Bool.and_eq_true, decide_eq_true_eq, beq_iff_eq]
  constructor
  · intro h
    refine ⟨?_, ?_, ?_, ?_⟩ <;> first | exact h.2.2.2.2.1 | exact h.2.2.2.2.2 | omega
  · intro h
    obtain ⟨e0, e1, e2, e3⟩ := h
    refine ⟨?_, ?_, ?_, ?_, ?_, ?_⟩ <;> first | omega | assumption
set_option maxRecDepth 100000 in
set_option maxHeartbeats 8000000 in
theorem shape_8 (t m : ByteArray) (n y : Int) (h1 : t.size ≤ maxLen) (h2 : m.size ≤ maxLen) (w : World) :
    Calls Tryd.prog 48 #[.agg #[.int .i64 8, .string t, .string m, .int .i64 n, .int .i64 y]] w fun e w' => e = .returned (.bool (nodeB ⟨8, t, m, n, y⟩)) ∧ Below w.heap.size w w' := by
  have HF : Hid (nodeB ⟨8, t, m, n, y⟩ = (m.toList.isEmpty && (t.toList.isEmpty && ((n == 0) && (y == 0))))) := node_8 t m n y
  have HB0 : Hid (Below w.heap.size w (w.alloc (.cells #[.int .i64 8, .string t, .string m, .int .i64 n, .int .i64 y] 60))) := (Below.refl _ _).alloc (Nat.le_refl _) _
  have hq := And.intro h1 h2
  clear hq h1 h2
  cases h0 : m.toList.isEmpty
  · have hG : nodeB ⟨8, t, m, n, y⟩ = false := by rw [HF.out]; simp [h0]
    have HG : Hid (nodeB ⟨8, t, m, n, y⟩ = false) := hG
    clear HF hG
    go_enter Tryd.func48, Tryd.ntmps48
    go_wp2_with fail
    go_ret
    exact ⟨ret_bool HG.out.symm, HB0.out⟩
  cases h1 : t.toList.isEmpty
  · have hG : nodeB ⟨8, t, m, n, y⟩ = false := by rw [HF.out]; simp [h0, h1]
    have HG : Hid (nodeB ⟨8, t, m, n, y⟩ = false) := hG
    clear HF hG
    go_enter Tryd.func48, Tryd.ntmps48
    go_wp2_with fail
    go_ret
    exact ⟨ret_bool HG.out.symm, HB0.out⟩
  cases h2 : (n == 0)
  · have hG : nodeB ⟨8, t, m, n, y⟩ = false := by rw [HF.out]; simp [h0, h1, h2]
    have HG : Hid (nodeB ⟨8, t, m, n, y⟩ = false) := hG
    clear HF hG
    go_enter Tryd.func48, Tryd.ntmps48
    go_wp2_with fail
    go_ret
    exact ⟨ret_bool HG.out.symm, HB0.out⟩
  cases h3 : (y == 0)
  · have hG : nodeB ⟨8, t, m, n, y⟩ = false := by rw [HF.out]; simp [h0, h1, h2, h3]
    have HG : Hid (nodeB ⟨8, t, m, n, y⟩ = false) := hG
    clear HF hG
    go_enter Tryd.func48, Tryd.ntmps48
    go_wp2_with fail
    go_ret
    exact ⟨ret_bool HG.out.symm, HB0.out⟩
  have hG : nodeB ⟨8, t, m, n, y⟩ = true := by rw [HF.out]; simp [h0, h1, h2, h3]
  have HG : Hid (nodeB ⟨8, t, m, n, y⟩ = true) := hG
  clear HF hG
  go_enter Tryd.func48, Tryd.ntmps48
  go_wp2_with fail
  go_ret
  exact ⟨ret_bool HG.out.symm, HB0.out⟩
theorem node_9 (t m : ByteArray) (n y : Int) : nodeB ⟨9, t, m, n, y⟩ = (m.toList.isEmpty && (t.toList.isEmpty && ((n == 0) && (y == 0)))) := by
  show (decide (0 ≤ n) && (decide (n ≤ 0) && (decide (0 ≤ y) && (decide (y ≤ 0) && (emp t && emp m))))) = _
  skip
  try unfold emp
  rw [Bool.eq_iff_iff]
  simp only [Bool.and_eq_true, decide_eq_true_eq, beq_iff_eq]
  constructor
  · intro h
    refine ⟨?_, ?_, ?_, ?_⟩ <;> first | exact h.2.2.2.2.1 | exact h.2.2.2.2.2 | omega
  · intro h
    obtain ⟨e0, e1, e2, e3⟩ := h
    refine ⟨?_, ?_, ?_, ?_, ?_, ?_⟩ <;> first | omega | assumption
set_option maxRecDepth 100000 in
set_option maxHeartbeats 8000000 in
theorem shape_9 (t m : ByteArray) (n y : Int) (h1 : t.size ≤ maxLen) (h2 : m.size ≤ maxLen) (w : World) :
    Calls Tryd.prog 48 #[.agg #[.int .i64 9, .string t, .string m, .int .i64 n, .int .i64 y]] w fun e w' => e = .returned (.bool (nodeB ⟨9, t, m, n, y⟩)) ∧ Below w.heap.size w w' := by
  have HF : Hid (nodeB ⟨9, t, m, n, y⟩ = (m.toList.isEmpty && (t.toList.isEmpty && ((n == 0) && (y == 0))))) := node_9 t m n y
  have HB0 : Hid (Below w.heap.size w (w.alloc (.cells #[.int .i64 9, .string t, .string m, .int .i64 n, .int .i64 y] 60))) := (Below.refl _ _).alloc (Nat.le_refl _) _
  have hq := And.intro h1 h2
  clear hq h1 h2
  cases h0 : m.toList.isEmpty
  · have hG : nodeB ⟨9, t, m, n, y⟩ = false := by rw [HF.out]; simp [h0]
    have HG : Hid (nodeB ⟨9, t, m, n, y⟩ = false) := hG
    clear HF hG
    go_enter Tryd.func48, Tryd.ntmps48
    go_wp2_with fail
    go_ret
    exact ⟨ret_bool HG.out.symm, HB0.out⟩
  cases h1 : t.toList.isEmpty
  · have hG : nodeB ⟨9, t, m, n, y⟩ = false := by rw [HF.out]; simp [h0, h1]
    have HG : Hid (nodeB ⟨9, t, m, n, y⟩ = false) := hG
    clear HF hG
    go_enter Tryd.func48, Tryd.ntmps48
    go_wp2_with fail
    go_ret
    exact ⟨ret_bool HG.out.symm, HB0.out⟩
  cases h2 : (n == 0)
  · have hG : nodeB ⟨9, t, m, n, y⟩ = false := by rw [HF.out]; simp [h0, h1, h2]
    have HG : Hid (nodeB ⟨9, t, m, n, y⟩ = false) := hG
    clear HF hG
    go_enter Tryd.func48, Tryd.ntmps48
    go_wp2_with fail
    go_ret
    exact ⟨ret_bool HG.out.symm, HB0.out⟩
  cases h3 : (y == 0)
  · have hG : nodeB ⟨9, t, m, n, y⟩ = false := by rw [HF.out]; simp [h0, h1, h2, h3]
    have HG : Hid (nodeB ⟨9, t, m, n, y⟩ = false) := hG
    clear HF hG
    go_enter Tryd.func48, Tryd.ntmps48
    go_wp2_with fail
    go_ret
    exact ⟨ret_bool HG.out.symm, HB0.out⟩
  have hG : nodeB ⟨9, t, m, n, y⟩ = true := by rw [HF.out]; simp [h0, h1, h2, h3]
  have HG : Hid (nodeB ⟨9, t, m, n, y⟩ = true) := hG
  clear HF hG
  go_enter Tryd.func48, Tryd.ntmps48
  go_wp2_with fail
  go_ret
  exact ⟨ret_bool HG.out.symm, HB0.out⟩
theorem node_10 (t m : ByteArray) (n y : Int) : nodeB ⟨10, t, m, n, y⟩ = (m.toList.isEmpty && (t.toList.isEmpty && ((n == 0) && (y == 0)))) := by
  show (decide (0 ≤ n) && (decide (n ≤ 0) && (decide (0 ≤ y) && (decide (y ≤ 0) && (emp t && emp m))))) = _
  skip
  try unfold emp
  rw [Bool.eq_iff_iff]
  simp only [Bool.and_eq_true, decide_eq_true_eq, beq_iff_eq]
  constructor
  · intro h
    refine ⟨?_, ?_, ?_, ?_⟩ <;> first | exact h.2.2.2.2.1 | exact h.2.2.2.2.2 | omega
  · intro h
    obtain ⟨e0, e1, e2, e3⟩ := h
    refine ⟨?_, ?_, ?_, ?_, ?_, ?_⟩ <;> first | omega | assumption
set_option maxRecDepth 100000 in
set_option maxHeartbeats 8000000 in
theorem shape_10 (t m : ByteArray) (n y : Int) (h1 : t.size ≤ maxLen) (h2 : m.size ≤ maxLen) (w : World) :
    Calls Tryd.prog 48 #[.agg #[.int .i64 10, .string t, .string m, .int .i64 n, .int .i64 y]] w fun e w' => e = .returned (.bool (nodeB ⟨10, t, m, n, y⟩)) ∧ Below w.heap.size w w' := by
  have HF : Hid (nodeB ⟨10, t, m, n, y⟩ = (m.toList.isEmpty && (t.toList.isEmpty && ((n == 0) && (y == 0))))) := node_10 t m n y
  have HB0 : Hid (Below w.heap.size w (w.alloc (.cells #[.int .i64 10, .string t, .string m, .int .i64 n, .int .i64 y] 60))) := (Below.refl _ _).alloc (Nat.le_refl _) _
  have hq := And.intro h1 h2
  clear hq h1 h2
  cases h0 : m.toList.isEmpty
  · have hG : nodeB ⟨10, t, m, n, y⟩ = false := by rw [HF.out]; simp [h0]
    have HG : Hid (nodeB ⟨10, t, m, n, y⟩ = false) := hG
    clear HF hG
    go_enter Tryd.func48, Tryd.ntmps48
    go_wp2_with fail
    go_ret
    exact ⟨ret_bool HG.out.symm, HB0.out⟩
  cases h1 : t.toList.isEmpty
  · have hG : nodeB ⟨10, t, m, n, y⟩ = false := by rw [HF.out]; simp [h0, h1]
    have HG : Hid (nodeB ⟨10, t, m, n, y⟩ = false) := hG
    clear HF hG
    go_enter Tryd.func48, Tryd.ntmps48
    go_wp2_with fail
    go_ret
    exact ⟨ret_bool HG.out.symm, HB0.out⟩
  cases h2 : (n == 0)
  · have hG : nodeB ⟨10, t, m, n, y⟩ = false := by rw [HF.out]; simp [h0, h1, h2]
    have HG : Hid (nodeB ⟨10, t, m, n, y⟩ = false) := hG
    clear HF hG
    go_enter Tryd.func48, Tryd.ntmps48
    go_wp2_with fail
    go_ret
    exact ⟨ret_bool HG.out.symm, HB0.out⟩
  cases h3 : (y == 0)
  · have hG : nodeB ⟨10, t, m, n, y⟩ = false := by rw [HF.out]; simp [h0, h1, h2, h3]
    have HG : Hid (nodeB ⟨10, t, m, n, y⟩ = false) := hG
    clear HF hG
    go_enter Tryd.func48, Tryd.ntmps48
    go_wp2_with fail
    go_ret
    exact ⟨ret_bool HG.out.symm, HB0.out⟩
  have hG : nodeB ⟨10, t, m, n, y⟩ = true := by rw [HF.out]; simp [h0, h1, h2, h3]
  have HG : Hid (nodeB ⟨10, t, m, n, y⟩ = true) := hG
  clear HF hG
  go_enter Tryd.func48, Tryd.ntmps48
  go_wp2_with fail
  go_ret
  exact ⟨ret_bool HG.out.symm, HB0.out⟩
theorem node_11 (t m : ByteArray) (n y : Int) : nodeB ⟨11, t, m, n, y⟩ = (m.toList.isEmpty && (t.toList.isEmpty && ((n == 0) && (y == 0)))) := by
  show (decide (0 ≤ n) && (decide (n ≤ 0) && (decide (0 ≤ y) && (decide (y ≤ 0) && (emp t && emp m))))) = _
  skip
  try unfold emp
  rw [Bool.eq_iff_iff]
  simp only [Bool.and_eq_true, decide_eq_true_eq, beq_iff_eq]
  constructor
  · intro h
    refine ⟨?_, ?_, ?_, ?_⟩ <;> first | exact h.2.2.2.2.1 | exact h.2.2.2.2.2 | omega
  · intro h
    obtain ⟨e0, e1, e2, e3⟩ := h
    refine ⟨?_, ?_, ?_, ?_, ?_, ?_⟩ <;> first | omega | assumption
set_option maxRecDepth 100000 in
set_option maxHeartbeats 8000000 in
theorem shape_11 (t m : ByteArray) (n y : Int) (h1 : t.size ≤ maxLen) (h2 : m.size ≤ maxLen) (w : World) :
    Calls Tryd.prog 48 #[.agg #[.int .i64 11, .string t, .string m, .int .i64 n, .int .i64 y]] w fun e w' => e = .returned (.bool (nodeB ⟨11, t, m, n, y⟩)) ∧ Below w.heap.size w w' := by
  have HF : Hid (nodeB ⟨11, t, m, n, y⟩ = (m.toList.isEmpty && (t.toList.isEmpty && ((n == 0) && (y == 0))))) := node_11 t m n y
  have HB0 : Hid (Below w.heap.size w (w.alloc (.cells #[.int .i64 11, .string t, .string m, .int .i64 n, .int .i64 y] 60))) := (Below.refl _ _).alloc (Nat.le_refl _) _
  have hq := And.intro h1 h2
  clear hq h1 h2
  cases h0 : m.toList.isEmpty
  · have hG : nodeB ⟨11, t, m, n, y⟩ = false := by rw [HF.out]; simp [h0]
    have HG : Hid (nodeB ⟨11, t, m, n, y⟩ = false) := hG
    clear HF hG
    go_enter Tryd.func48, Tryd.ntmps48
    go_wp2_with fail
    go_ret
    exact ⟨ret_bool HG.out.symm, HB0.out⟩
  cases h1 : t.toList.isEmpty
  · have hG : nodeB ⟨11, t, m, n, y⟩ = false := by rw [HF.out]; simp [h0, h1]
    have HG : Hid (nodeB ⟨11, t, m, n, y⟩ = false) := hG
    clear HF hG
    go_enter Tryd.func48, Tryd.ntmps48
    go_wp2_with fail
    go_ret
    exact ⟨ret_bool HG.out.symm, HB0.out⟩
  cases h2 : (n == 0)
  · have hG : nodeB ⟨11, t, m, n, y⟩ = false := by rw [HF.out]; simp [h0, h1, h2]
    have HG : Hid (nodeB ⟨11, t, m, n, y⟩ = false) := hG
    clear HF hG
    go_enter Tryd.func48, Tryd.ntmps48
    go_wp2_with fail
    go_ret
    exact ⟨ret_bool HG.out.symm, HB0.out⟩
  cases h3 : (y == 0)
  · have hG : nodeB ⟨11, t, m, n, y⟩ = false := by rw [HF.out]; simp [h0, h1, h2, h3]
    have HG : Hid (nodeB ⟨11, t, m, n, y⟩ = false) := hG
    clear HF hG
    go_enter Tryd.func48, Tryd.ntmps48
    go_wp2_with fail
    go_ret
    exact ⟨ret_bool HG.out.symm, HB0.out⟩
  have hG : nodeB ⟨11, t, m, n, y⟩ = true := by rw [HF.out]; simp [h0, h1, h2, h3]
  have HG : Hid (nodeB ⟨11, t, m, n, y⟩ = true) := hG
  clear HF hG
  go_enter Tryd.func48, Tryd.ntmps48
  go_wp2_with fail
  go_ret
  exact ⟨ret_bool HG.out.symm, HB0.out⟩
theorem node_12 (t m : ByteArray) (n y : Int) : nodeB ⟨12, t, m, n, y⟩ = (m.toList.isEmpty && (opB t && ((n == 0) && (y == 2)))) := by
  show (decide (0 ≤ n) && (decide (n ≤ 0) && (decide (2 ≤ y) && (decide (y ≤ 2) && (opB t && emp m))))) = _
  skip
  try unfold emp
  rw [Bool.eq_iff_iff]
  simp only [Bool.and_eq_true, decide_eq_true_eq, beq_iff_eq]
  constructor
  · intro h
    refine ⟨?_, ?_, ?_, ?_⟩ <;> first | exact h.2.2.2.2.1 | exact h.2.2.2.2.2 | omega
  · intro h
    obtain ⟨e0, e1, e2, e3⟩ := h
    refine ⟨?_, ?_, ?_, ?_, ?_, ?_⟩ <;> first | omega | assumption
set_option maxRecDepth 100000 in
set_option maxHeartbeats 8000000 in
theorem shape_12 (t m : ByteArray) (n y : Int) (h1 : t.size ≤ maxLen) (h2 : m.size ≤ maxLen) (w : World) :
    Calls Tryd.prog 48 #[.agg #[.int .i64 12, .string t, .string m, .int .i64 n, .int .i64 y]] w fun e w' => e = .returned (.bool (nodeB ⟨12, t, m, n, y⟩)) ∧ Below w.heap.size w w' := by
  have HF : Hid (nodeB ⟨12, t, m, n, y⟩ = (m.toList.isEmpty && (opB t && ((n == 0) && (y == 2))))) := node_12 t m n y
  have HB0 : Hid (Below w.heap.size w (w.alloc (.cells #[.int .i64 12, .string t, .string m, .int .i64 n, .int .i64 y] 60))) := (Below.refl _ _).alloc (Nat.le_refl _) _
  have HN : Hid (∀ W, Calls Tryd.prog 68 #[.string t] W fun e w' => e = .returned (.bool (opB t)) ∧ Below W.heap.size W w') := fun W => spec_op t W
  have hq := And.intro h1 h2
  clear hq h1 h2
  generalize opB t = N at *
  cases h0 : m.toList.isEmpty
  · have hG : nodeB ⟨12, t, m, n, y⟩ = false := by rw [HF.out]; simp [h0]
    have HG : Hid (nodeB ⟨12, t, m, n, y⟩ = false) := hG
    clear HF hG
    go_enter Tryd.func48, Tryd.ntmps48
    go_wp2_with fail
    go_ret
    exact ⟨ret_bool HG.out.symm, HB0.out⟩
  cases N
  · have hG : nodeB ⟨12, t, m, n, y⟩ = false := by rw [HF.out]; simp [h0]
    have HG : Hid (nodeB ⟨12, t, m, n, y⟩ = false) := hG
    clear HF hG
    go_enter Tryd.func48, Tryd.ntmps48
    go_wp2_with fail
    refine (HN.out _).mono ?_
    rintro e w1 ⟨rfl, hb⟩
    have HB1 : Hid (Below w.heap.size w w1) := HB0.out.trans (hb.mono HB0.out.size)
    clear hb
    go_wp2_with fail
    go_ret
    exact ⟨ret_bool HG.out.symm, HB1.out⟩
  cases h2 : (n == 0)
  · have hG : nodeB ⟨12, t, m, n, y⟩ = false := by rw [HF.out]; simp [h0, h2]
    have HG : Hid (nodeB ⟨12, t, m, n, y⟩ = false) := hG
    clear HF hG
    go_enter Tryd.func48, Tryd.ntmps48
    go_wp2_with fail
    refine (HN.out _).mono ?_
    rintro e w1 ⟨rfl, hb⟩
    have HB1 : Hid (Below w.heap.size w w1) := HB0.out.trans (hb.mono HB0.out.size)
    clear hb
    go_wp2_with fail
    go_ret
    exact ⟨ret_bool HG.out.symm, HB1.out⟩
  cases h3 : (y == 2)
  · have hG : nodeB ⟨12, t, m, n, y⟩ = false := by rw [HF.out]; simp [h0, h2, h3]
    have HG : Hid (nodeB ⟨12, t, m, n, y⟩ = false) := hG
    clear HF hG
    go_enter Tryd.func48, Tryd.ntmps48
    go_wp2_with fail
    refine (HN.out _).mono ?_
    rintro e w1 ⟨rfl, hb⟩
    have HB1 : Hid (Below w.heap.size w w1) := HB0.out.trans (hb.mono HB0.out.size)
    clear hb
    go_wp2_with fail
    go_ret
    exact ⟨ret_bool HG.out.symm, HB1.out⟩
  have hG : nodeB ⟨12, t, m, n, y⟩ = true := by rw [HF.out]; simp [h0, h2, h3]
  have HG : Hid (nodeB ⟨12, t, m, n, y⟩ = true) := hG
  clear HF hG
  go_enter Tryd.func48, Tryd.ntmps48
  go_wp2_with fail
  refine (HN.out _).mono ?_
  rintro e w1 ⟨rfl, hb⟩
  have HB1 : Hid (Below w.heap.size w w1) := HB0.out.trans (hb.mono HB0.out.size)
  clear hb
  go_wp2_with fail
  go_ret
  exact ⟨ret_bool HG.out.symm, HB1.out⟩
theorem node_13 (t m : ByteArray) (n y : Int) : nodeB ⟨13, t, m, n, y⟩ = (m.toList.isEmpty && (t.toList.isEmpty && ((n == 0) && (y == 1)))) := by
  show (decide (0 ≤ n) && (decide (n ≤ 0) && (decide (1 ≤ y) && (decide (y ≤ 1) && (emp t && emp m))))) = _
  skip
  try unfold emp
  rw [Bool.eq_iff_iff]
  simp only [Bool.and_eq_true, decide_eq_true_eq, beq_iff_eq]
  constructor
  · intro h
    refine ⟨?_, ?_, ?_, ?_⟩ <;> first | exact h.2.2.2.2.1 | exact h.2.2.2.2.2 | omega
  · intro h
    obtain ⟨e0, e1, e2, e3⟩ := h
    refine ⟨?_, ?_, ?_, ?_, ?_, ?_⟩ <;> first | omega | assumption
set_option maxRecDepth 100000 in
set_option maxHeartbeats 8000000 in
theorem shape_13 (t m : ByteArray) (n y : Int) (h1 : t.size ≤ maxLen) (h2 : m.size ≤ maxLen) (w : World) :
    Calls Tryd.prog 48 #[.agg #[.int .i64 13, .string t, .string m, .int .i64 n, .int .i64 y]] w fun e w' => e = .returned (.bool (nodeB ⟨13, t, m, n, y⟩)) ∧ Below w.heap.size w w' := by
  have HF : Hid (nodeB ⟨13, t, m, n, y⟩ = (m.toList.isEmpty && (t.toList.isEmpty && ((n == 0) && (y == 1))))) := node_13 t m n y
  have HB0 : Hid (Below w.heap.size w (w.alloc (.cells #[.int .i64 13, .string t, .string m, .int .i64 n, .int .i64 y] 60))) := (Below.refl _ _).alloc (Nat.le_refl _) _
  have hq := And.intro h1 h2
  clear hq h1 h2
  cases h0 : m.toList.isEmpty
  · have hG : nodeB ⟨13, t, m, n, y⟩ = false := by rw [HF.out]; simp [h0]
    have HG : Hid (nodeB ⟨13, t, m, n, y⟩ = false) := hG
    clear HF hG
    go_enter Tryd.func48, Tryd.ntmps48
    go_wp2_with fail
    go_ret
    exact ⟨ret_bool HG.out.symm, HB0.out⟩
  cases h1 : t.toList.isEmpty
  · have hG : nodeB ⟨13, t, m, n, y⟩ = false := by rw [HF.out]; simp [h0, h1]
    have HG : Hid (nodeB ⟨13, t, m, n, y⟩ = false) := hG
    clear HF hG
    go_enter Tryd.func48, Tryd.ntmps48
    go_wp2_with fail
    go_ret
    exact ⟨ret_bool HG.out.symm, HB0.out⟩
  cases h2 : (n == 0)
  · have hG : nodeB ⟨13, t, m, n, y⟩ = false := by rw [HF.out]; simp [h0, h1, h2]
    have HG : Hid (nodeB ⟨13, t, m, n, y⟩ = false) := hG
    clear HF hG
    go_enter Tryd.func48, Tryd.ntmps48
    go_wp2_with fail
    go_ret
    exact ⟨ret_bool HG.out.symm, HB0.out⟩
  cases h3 : (y == 1)
  · have hG : nodeB ⟨13, t, m, n, y⟩ = false := by rw [HF.out]; simp [h0, h1, h2, h3]
    have HG : Hid (nodeB ⟨13, t, m, n, y⟩ = false) := hG
    clear HF hG
    go_enter Tryd.func48, Tryd.ntmps48
    go_wp2_with fail
    go_ret
    exact ⟨ret_bool HG.out.symm, HB0.out⟩
  have hG : nodeB ⟨13, t, m, n, y⟩ = true := by rw [HF.out]; simp [h0, h1, h2, h3]
  have HG : Hid (nodeB ⟨13, t, m, n, y⟩ = true) := hG
  clear HF hG
  go_enter Tryd.func48, Tryd.ntmps48
  go_wp2_with fail
  go_ret
  exact ⟨ret_bool HG.out.symm, HB0.out⟩
end Go.Proofs.YtnefcldjigndgaaDoor
