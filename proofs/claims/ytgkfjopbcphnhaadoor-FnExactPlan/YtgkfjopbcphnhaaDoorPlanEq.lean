/- Rows of a plan held against each other, marked, and looked at again: what the laws' helpers do. -/
import Derived.Test.YtgkfjopbcphnhaaDoorPlanP
import Derived.Test.YtgkfjopbcphnhaaDoorPlanLaw
namespace Go.Proofs.YtgkfjopbcphnhaaDoor
open Go.RowKit

/-- Cell i of row k. -/
def rowI (p r b s pay : Int) (k i : Nat) : Int := if i = 0 then dueI s (k + 1) else if i = 1 then intN r b s k (leftI p r b s pay k) else if i = 2 then min pay (leftI p r b s pay k + intN r b s k (leftI p r b s pay k)) else leftI p r b s pay (k + 1)
theorem rowC_at (p r b s pay : Int) (k i : Nat) (h : i < 4) : (rowC p r b s pay k)[i]? = some (.int .i64 (rowI p r b s pay k i)) := by
  rcases (by omega : i = 0 ∨ i = 1 ∨ i = 2 ∨ i = 3) with rfl | rfl | rfl | rfl <;> rfl
/-- Cell j of all rows. -/
def rowF (p r b s pay : Int) (j : Nat) : Int := rowI p r b s pay (j / 4) (j % 4)
theorem rowsC_cell (p r b s pay : Int) (n j : Nat) (h : j < n * 4) : (rowsC p r b s pay n)[j]? = some (.int .i64 (rowF p r b s pay j)) := by
  have := rowsC_at p r b s pay (j / 4) (j % 4) (by omega) n (by omega)
  rw [show j / 4 * 4 + j % 4 = j by omega, rowC_at _ _ _ _ _ _ _ (by omega)] at this
  exact this
/-- The rows in a block g, n of them, read so. -/
def RowsIs (w : World) (g n : Nat) (F : Nat → Int) : Prop := g < w.heap.size ∧ ∀ j, j < n * 4 → w.cell? ⟨g, j, none⟩ = some (.int .i64 (F j))
theorem RowsIs.below {w w' : World} {g n : Nat} {F : Nat → Int} (h : RowsIs w g n F) (hb : Below w.heap.size w w') : RowsIs w' g n F :=
  ⟨Nat.lt_of_lt_of_le h.1 hb.size, fun j hj => (hb.cell (p := ⟨g, j, none⟩) h.1).trans (h.2 j hj)⟩
theorem RowsIs.grown {w w' : World} {g n q : Nat} {F : Nat → Int} (h : RowsIs w g n F) (hg : w.grownBy w' (some q)) (hne : g ≠ q) : RowsIs w' g n F :=
  ⟨Nat.lt_of_lt_of_le h.1 hg.size, fun j hj => hg.cell (a := ⟨g, j, none⟩) (h.2 j hj) (by simpa using hne)⟩
theorem rows_own {w : World} {B g n cap : Nat} {p r b s pay : Int} (h : w.ownsRow B 45 4 (.slice (some ⟨g, 0, none⟩) n cap) n (rowsC p r b s pay n)) : RowsIs w g n (rowF p r b s pay) :=
  ⟨(h.lt g rfl).2, fun j hj => (h.cellAt j hj).trans (rowsC_cell p r b s pay n j hj)⟩

set_option maxRecDepth 100000 in
set_option maxHeartbeats 4000000 in
theorem eq_row (x0 x1 x2 x3 : Int) (w : World) :
    Calls Tryd.prog 88 #[.agg #[.int .i64 x0, .int .i64 x1, .int .i64 x2, .int .i64 x3], .agg #[.int .i64 x0, .int .i64 x1, .int .i64 x2, .int .i64 x3]] w fun e w' => e = .returned (.bool true) ∧ Below w.heap.size w w' := by
  go_enter Tryd.func88, Tryd.ntmps88
  go_wp2
  go_ret
  exact ⟨rfl, ((Below.refl _ _).alloc (Nat.le_refl _) _).alloc (by simp) _⟩
set_option maxRecDepth 100000 in
set_option maxHeartbeats 4000000 in
theorem eq_rows (g g' n cap cap' : Nat) (F : Nat → Int) (hn : n ≤ 60) (w : World) (h : RowsIs w g n F) (h' : RowsIs w g' n F) :
    Calls Tryd.prog 66 #[.slice (some ⟨g, 0, none⟩) n cap, .slice (some ⟨g', 0, none⟩) n cap'] w fun e w' => e = .returned (.bool true) ∧ Below w.heap.size w w' := by
  have HR : Hid (RowsIs w g n F) := h
  have HR' : Hid (RowsIs w g' n F) := h'
  have hg := h.1
  have hg' := h'.1
  clear h h'
  have hnn : ((n : Int) != (n : Int)) = false := by simp
  go_enter Tryd.func66, Tryd.ntmps66
  go_wp2_with fail
  go_loopw [5] (fun i wr => ∃ k : Nat, i = .int .i64 k ∧ k ≤ n ∧ Below w.heap.size w wr) (fun i _ => n - (intOf i).toNat)
  case atStart => exact ⟨0, rfl, by omega, Below.refl _ _⟩
  case round =>
    obtain ⟨k, rfl, hk, hb⟩ := hrel
    have HB : Hid (Below w.heap.size w wr) := hb
    have hsr := hb.size
    clear hb
    by_cases hkn : k < n
    · have q0 : decide (k < n) = true := by simpa using hkn
      have q1 : decide ((k : Int) < (n : Int)) = true := by simpa using hkn
      have r0 := (HR.out.below HB.out).2
      have r0' := (HR'.out.below HB.out).2
      have a0 := r0 (k * 4) (by omega)
      have a1 := r0 (k * 4 + 1) (by omega)
      have a2 := r0 (k * 4 + 2) (by omega)
      have a3 := r0 (k * 4 + 3) (by omega)
      have b0 := r0' (k * 4) (by omega)
      have b1 := r0' (k * 4 + 1) (by omega)
      have b2 := r0' (k * 4 + 2) (by omega)
      have b3 := r0' (k * 4 + 3) (by omega)
      clear r0 r0'
      generalize F (k * 4) = x0 at *
      generalize F (k * 4 + 1) = x1 at *
      generalize F (k * 4 + 2) = x2 at *
      generalize F (k * 4 + 3) = x3 at *
      go_upto_region 6 with fail
      go_region_held3 (fun W => W.cell? ⟨g, k * 4, none⟩ = some (.int .i64 x0) ∧ W.cell? ⟨g, k * 4 + 1, none⟩ = some (.int .i64 x1) ∧ W.cell? ⟨g, k * 4 + 2, none⟩ = some (.int .i64 x2) ∧ W.cell? ⟨g, k * 4 + 3, none⟩ = some (.int .i64 x3) ∧ W.cell? ⟨g', k * 4, none⟩ = some (.int .i64 x0) ∧ W.cell? ⟨g', k * 4 + 1, none⟩ = some (.int .i64 x1) ∧ W.cell? ⟨g', k * 4 + 2, none⟩ = some (.int .i64 x2) ∧ W.cell? ⟨g', k * 4 + 3, none⟩ = some (.int .i64 x3)) (go_keep) (first | (go_at_call 88; refine (eq_row _ _ _ _ _).mono ?_; rintro e w2 ⟨rfl, hb2⟩; have e0 : w2.cell? ⟨g, k * 4, none⟩ = some (.int .i64 x0) := (hb2.cell (p := ⟨g, k * 4, none⟩) (by simp; omega)).trans a0; have e1 : w2.cell? ⟨g, k * 4 + 1, none⟩ = some (.int .i64 x1) := (hb2.cell (p := ⟨g, k * 4 + 1, none⟩) (by simp; omega)).trans a1; have e2 : w2.cell? ⟨g, k * 4 + 2, none⟩ = some (.int .i64 x2) := (hb2.cell (p := ⟨g, k * 4 + 2, none⟩) (by simp; omega)).trans a2; have e3 : w2.cell? ⟨g, k * 4 + 3, none⟩ = some (.int .i64 x3) := (hb2.cell (p := ⟨g, k * 4 + 3, none⟩) (by simp; omega)).trans a3; have e4 : w2.cell? ⟨g', k * 4, none⟩ = some (.int .i64 x0) := (hb2.cell (p := ⟨g', k * 4, none⟩) (by simp; omega)).trans b0; have e5 : w2.cell? ⟨g', k * 4 + 1, none⟩ = some (.int .i64 x1) := (hb2.cell (p := ⟨g', k * 4 + 1, none⟩) (by simp; omega)).trans b1; have e6 : w2.cell? ⟨g', k * 4 + 2, none⟩ = some (.int .i64 x2) := (hb2.cell (p := ⟨g', k * 4 + 2, none⟩) (by simp; omega)).trans b2; have e7 : w2.cell? ⟨g', k * 4 + 3, none⟩ = some (.int .i64 x3) := (hb2.cell (p := ⟨g', k * 4 + 3, none⟩) (by simp; omega)).trans b3))
      have HB2 : Hid (Below w.heap.size w w2) := HB.out.drew.trans (hb2.mono (by simp; omega))
      clear hb2 a0 a1 a2 a3 b0 b1 b2 b3 e0 e1 e2 e3 e4 e5 e6 e7
      go_wp2
      go_roundw
      case rel => exact ⟨k + 1, by go_num, by omega, HB2.out⟩
      case measure => simp [intOf]; omega
    · have q0 : decide (k < n) = false := by simpa using hkn
      have q1 : decide ((k : Int) < (n : Int)) = false := by simpa using hkn
      go_wp2_with fail
      go_ret
      exact ⟨rfl, HB.out⟩
set_option maxRecDepth 100000 in
theorem eq_none (w : World) :
    Calls Tryd.prog 66 #[.slice none 0 0, .slice none 0 0] w fun e w' => e = .returned (.bool true) ∧ w' = w := by
  go_enter Tryd.func66, Tryd.ntmps66
  go_wp2_with fail
  refine wp_loop_rounds 1 ?_
  rw [rounds_succ]
  go_wp2
  go_ret
  exact ⟨rfl, rfl⟩

/-- What a marked row's cell reads: its number and one. -/
theorem mark_step {w : World} {g n I : Nat} {F : Nat → Int} (h : ∀ j, j < n * 4 → w.cell? ⟨g, j, none⟩ = some (.int .i64 (if j < I * 4 then (j : Int) + 1 else F j))) (hI : I < n) {x0 x1 x2 x3 : Int} (e0 : x0 = (I * 4 : Nat) + 1) (e1 : x1 = (I * 4 : Nat) + 2) (e2 : x2 = (I * 4 : Nat) + 3) (e3 : x3 = (I * 4 : Nat) + 4) :
    ∀ j, j < n * 4 → ((((w.setCell ⟨g, I * 4, none⟩ (.int .i64 x0)).setCell ⟨g, I * 4 + 1, none⟩ (.int .i64 x1)).setCell ⟨g, I * 4 + 2, none⟩ (.int .i64 x2)).setCell ⟨g, I * 4 + 3, none⟩ (.int .i64 x3)).cell? ⟨g, j, none⟩ = some (.int .i64 (if j < (I + 1) * 4 then (j : Int) + 1 else F j)) := by
  intro j hj
  have a0 := h (I * 4) (by omega)
  have a1 := h (I * 4 + 1) (by omega)
  have a2 := h (I * 4 + 2) (by omega)
  have a3 := h (I * 4 + 3) (by omega)
  rcases (by omega : j = I * 4 ∨ j = I * 4 + 1 ∨ j = I * 4 + 2 ∨ j = I * 4 + 3 ∨ (j ≠ I * 4 ∧ j ≠ I * 4 + 1 ∧ j ≠ I * 4 + 2 ∧ j ≠ I * 4 + 3)) with rfl | rfl | rfl | rfl | ⟨n0, n1, n2, n3⟩
  · rw [if_pos (by omega), e0]; simp [go_sem, a0]
  · rw [if_pos (by omega), e1]; simp [go_sem, a1]; omega
  · rw [if_pos (by omega), e2]; simp [go_sem, a2]; omega
  · rw [if_pos (by omega), e3]; simp [go_sem, a3]; omega
  · rw [World.cell?_setCell_other _ _ _ _ (by first | (simp; done) | (simp; omega)), World.cell?_setCell_other _ _ _ _ (by first | (simp; done) | (simp; omega)), World.cell?_setCell_other _ _ _ _ (by first | (simp; done) | (simp; omega)), World.cell?_setCell_other _ _ _ _ (by first | (simp; done) | (simp; omega)), h j hj]
    rcases (by omega : j < I * 4 ∨ (I + 1) * 4 ≤ j) with hl | hl
    · rw [if_pos hl, if_pos (by omega)]
    · rw [if_neg (by omega), if_neg (by omega)]
theorem set_grown {w wr : World} {g j : Nat} {u : Value} (h : w.grownBy wr (some g)) : w.grownBy (wr.setCell ⟨g, j, none⟩ u) (some g) := by
  refine ⟨h.os, h.tape, h.output, by simpa using h.size, fun k hk hne => ?_⟩
  rw [heap_setCell_other _ _ _ _ (by simpa using hne)]
  exact h.block k hk hne

set_option maxRecDepth 100000 in
set_option maxHeartbeats 4000000 in
theorem mark_rows (g n cap : Nat) (F : Nat → Int) (hn : n ≤ 60) (w : World) (h : RowsIs w g n F) (hf : ∀ j, w.frozen? ⟨g, j, none⟩ = false) :
    Calls Tryd.prog 67 #[.slice (some ⟨g, 0, none⟩) n cap, .int .i64 1] w fun e w' => e = .returned (.int .i64 ((n * 4 : Nat) + 1)) ∧ RowsIs w' g n (fun j => (j : Int) + 1) ∧ w.grownBy w' (some g) := by
  have HR : Hid (RowsIs w g n F) := h
  have HF : Hid (∀ j, w.frozen? ⟨g, j, none⟩ = false) := hf
  clear h hf
  go_enter Tryd.func67, Tryd.ntmps67
  go_wp2_with fail
  go_loopw [1, 5] (fun x i wr => ∃ I : Nat, x = .int .i64 ((I * 4 : Nat) + 1) ∧ i = .int .i64 I ∧ I ≤ n ∧ (∀ j, j < n * 4 → wr.cell? ⟨g, j, none⟩ = some (.int .i64 (if j < I * 4 then (j : Int) + 1 else F j))) ∧ (∀ j, wr.frozen? ⟨g, j, none⟩ = false) ∧ w.grownBy wr (some g)) (fun _ i _ => n - (intOf i).toNat)
  case atStart => exact ⟨0, rfl, rfl, by omega, fun j hj => by rw [if_neg (by omega)]; exact HR.out.2 j hj, HF.out, World.grownBy.refl _ _⟩
  case round =>
    obtain ⟨I, rfl, rfl, hI, hc, hf, hg⟩ := hrel
    have HC : Hid (∀ j, j < n * 4 → wr.cell? ⟨g, j, none⟩ = some (.int .i64 (if j < I * 4 then (j : Int) + 1 else F j))) := hc
    have HG : Hid (w.grownBy wr (some g)) := hg
    clear hg
    by_cases hin : I < n
    · have q0 : decide (I < n) = true := by simpa using hin
      have q1 : decide ((I : Int) < (n : Int)) = true := by simpa using hin
      have a0 := hc (I * 4) (by omega)
      have a1 := hc (I * 4 + 1) (by omega)
      have a2 := hc (I * 4 + 2) (by omega)
      have a3 := hc (I * 4 + 3) (by omega)
      rw [if_neg (by omega)] at a0 a1 a2 a3
      clear hc
      generalize F (I * 4) = x0 at a0
      generalize F (I * 4 + 1) = x1 at a1
      generalize F (I * 4 + 2) = x2 at a2
      generalize F (I * 4 + 3) = x3 at a3
      go_wp2
      go_roundw
      case rel => exact ⟨I + 1, by go_num, by go_num, by omega, mark_step HC.out hin (by omega) (by omega) (by omega) (by omega), fun j => by simp [hf], set_grown (set_grown (set_grown (set_grown HG.out)))⟩
      case measure => simp [intOf]; omega
    · have q0 : decide (I < n) = false := by simpa using hin
      have q1 : decide ((I : Int) < (n : Int)) = false := by simpa using hin
      obtain rfl : I = n := by omega
      go_wp2_with fail
      go_ret
      exact ⟨rfl, ⟨Nat.lt_of_lt_of_le HR.out.1 HG.out.size, fun j hj => by have := HC.out j hj; rwa [if_pos hj] at this⟩, HG.out⟩

set_option maxRecDepth 100000 in
set_option maxHeartbeats 4000000 in
theorem held_rows (g n cap : Nat) (hn : n ≤ 60) (w : World) (h : RowsIs w g n (fun j => (j : Int) + 1)) :
    Calls Tryd.prog 68 #[.slice (some ⟨g, 0, none⟩) n cap, .int .i64 1] w fun e w' => e = .returned (.int .i64 ((n * 4 : Nat) + 1)) ∧ w' = w := by
  have HR : Hid (RowsIs w g n (fun j => (j : Int) + 1)) := h
  clear h
  go_enter Tryd.func68, Tryd.ntmps68
  go_wp2_with fail
  go_loopw [1, 5] (fun x i wr => ∃ I : Nat, x = .int .i64 ((I * 4 : Nat) + 1) ∧ i = .int .i64 I ∧ I ≤ n ∧ wr = w) (fun _ i _ => n - (intOf i).toNat)
  case atStart => exact ⟨0, rfl, rfl, by omega, rfl⟩
  case round =>
    obtain ⟨I, rfl, rfl, hI, rfl⟩ := hrel
    by_cases hin : I < n
    · have q0 : decide (I < n) = true := by simpa using hin
      have q1 : decide ((I : Int) < (n : Int)) = true := by simpa using hin
      have a0 : wr.cell? ⟨g, I * 4, none⟩ = some (.int .i64 ((I : Int) * 4 + 1)) := (HR.out.2 (I * 4) (by omega)).trans (by congr 2)
      have a1 : wr.cell? ⟨g, I * 4 + 1, none⟩ = some (.int .i64 ((I : Int) * 4 + 1 + 1)) := (HR.out.2 (I * 4 + 1) (by omega)).trans (by congr 2)
      have a2 : wr.cell? ⟨g, I * 4 + 2, none⟩ = some (.int .i64 ((I : Int) * 4 + 1 + 1 + 1)) := (HR.out.2 (I * 4 + 2) (by omega)).trans (by congr 2)
      have a3 : wr.cell? ⟨g, I * 4 + 3, none⟩ = some (.int .i64 ((I : Int) * 4 + 1 + 1 + 1 + 1)) := (HR.out.2 (I * 4 + 3) (by omega)).trans (by congr 2)
      have hxx : ∀ x : Int, (x != x) = false := fun x => by simp
      go_wp2
      go_roundw
      case rel => exact ⟨I + 1, by go_num, by go_num, by omega, trivial⟩
      case measure => simp [intOf]; omega
    · have q0 : decide (I < n) = false := by simpa using hin
      have q1 : decide ((I : Int) < (n : Int)) = false := by simpa using hin
      obtain rfl : I = n := by omega
      go_wp2_with fail
      go_ret
      exact ⟨rfl, rfl⟩

theorem grown_box {w w1 : World} {o : Obj} {g : Nat} (h : (w.alloc o).grownBy w1 (some g)) : w.grownBy w1 (some g) := by
  refine ⟨h.os, h.tape, h.output, by have := h.size; simp at this; omega, fun k hk hne => (h.block k (by simp; omega) hne).trans ?_⟩
  exact ((Below.refl w.heap.size w).alloc (Nat.le_refl _) o).block k hk
set_option maxRecDepth 100000 in
set_option maxHeartbeats 4000000 in
theorem mark_plan (X : Int) (g n cap : Nat) (F : Nat → Int) (hn : n ≤ 60) (w : World) (h : RowsIs w g n F) (hf : ∀ j, w.frozen? ⟨g, j, none⟩ = false) :
    Calls Tryd.prog 33 #[.agg #[.int .i64 X, .slice (some ⟨g, 0, none⟩) n cap, .int .i64 0], .int .i64 1] w fun e w' => e = .returned (.int .i64 ((n * 4 : Nat) + 1)) ∧ RowsIs w' g n (fun j => (j : Int) + 1) ∧ w.grownBy w' (some g) := by
  have hb : Below w.heap.size w (w.alloc (.cells #[.int .i64 X, .slice (some ⟨g, 0, none⟩) n cap, .int .i64 0] 42)) := (Below.refl _ _).alloc (Nat.le_refl _) _
  have H := mark_rows g n cap F hn _ (h.below hb) (fun j => (hb.frozen (p := ⟨g, j, none⟩) h.1).trans (hf j))
  have H : Hid (Calls Tryd.prog 67 #[.slice (some ⟨g, 0, none⟩) n cap, .int .i64 1] (w.alloc (.cells #[.int .i64 X, .slice (some ⟨g, 0, none⟩) n cap, .int .i64 0] 42)) fun e w' => e = .returned (.int .i64 ((n * 4 : Nat) + 1)) ∧ RowsIs w' g n (fun j => (j : Int) + 1) ∧ (w.alloc (.cells #[.int .i64 X, .slice (some ⟨g, 0, none⟩) n cap, .int .i64 0] 42)).grownBy w' (some g)) := H
  clear h hf hb
  go_enter Tryd.func33, Tryd.ntmps33
  go_wp2_with fail
  refine H.out.mono ?_
  rintro e w1 ⟨rfl, hr1, hg1⟩
  have HX : Hid (RowsIs w1 g n (fun j => (j : Int) + 1) ∧ w.grownBy w1 (some g)) := ⟨hr1, grown_box hg1⟩
  clear hr1 hg1 H
  go_wp2_with fail
  go_ret
  exact ⟨rfl, HX.out⟩
set_option maxRecDepth 100000 in
set_option maxHeartbeats 4000000 in
theorem held_plan (X : Int) (g n cap : Nat) (hn : n ≤ 60) (w : World) (h : RowsIs w g n (fun j => (j : Int) + 1)) :
    Calls Tryd.prog 34 #[.agg #[.int .i64 X, .slice (some ⟨g, 0, none⟩) n cap, .int .i64 0], .int .i64 1] w fun e w' => e = .returned (.int .i64 ((n * 4 : Nat) + 1)) ∧ Below w.heap.size w w' := by
  have hb : Below w.heap.size w (w.alloc (.cells #[.int .i64 X, .slice (some ⟨g, 0, none⟩) n cap, .int .i64 0] 42)) := (Below.refl _ _).alloc (Nat.le_refl _) _
  have H := held_rows g n cap hn _ (h.below hb)
  have H : Hid (Calls Tryd.prog 68 #[.slice (some ⟨g, 0, none⟩) n cap, .int .i64 1] (w.alloc (.cells #[.int .i64 X, .slice (some ⟨g, 0, none⟩) n cap, .int .i64 0] 42)) fun e w' => e = .returned (.int .i64 ((n * 4 : Nat) + 1)) ∧ w' = w.alloc (.cells #[.int .i64 X, .slice (some ⟨g, 0, none⟩) n cap, .int .i64 0] 42)) := H
  have HB : Hid (Below w.heap.size w (w.alloc (.cells #[.int .i64 X, .slice (some ⟨g, 0, none⟩) n cap, .int .i64 0] 42))) := hb
  clear h hb
  have q0 : decide (((n * 4 : Nat) : Int) + 1 < 0) = false := by simp; omega
  have q1 : decide ((n : Int) * 4 + 1 < 0) = false := by simp; omega
  go_enter Tryd.func34, Tryd.ntmps34
  go_wp2_with fail
  refine H.out.mono ?_
  rintro e w1 ⟨rfl, rfl⟩
  clear H
  go_wp2_with fail
  go_ret
  exact ⟨rfl, HB.out⟩
set_option maxRecDepth 100000 in
set_option maxHeartbeats 4000000 in
theorem eq_plan (X : Int) (g g' n cap cap' : Nat) (F : Nat → Int) (hn : n ≤ 60) (w : World) (h : RowsIs w g n F) (h' : RowsIs w g' n F) :
    Calls Tryd.prog 32 #[.agg #[.int .i64 X, .slice (some ⟨g, 0, none⟩) n cap, .int .i64 0], .agg #[.int .i64 X, .slice (some ⟨g', 0, none⟩) n cap', .int .i64 0]] w fun e w' => e = .returned (.bool true) ∧ Below w.heap.size w w' := by
  have T0 := two_new w #[.int .i64 X, .slice (some ⟨g, 0, none⟩) n cap, .int .i64 0] #[.int .i64 X, .slice (some ⟨g', 0, none⟩) n cap', .int .i64 0] 42 42
  have H := eq_rows g g' n cap cap' F hn _ (h.below T0.bel) (h'.below T0.bel)
  have H : Hid (Calls Tryd.prog 66 #[.slice (some ⟨g, 0, none⟩) n cap, .slice (some ⟨g', 0, none⟩) n cap'] ((w.alloc (.cells #[.int .i64 X, .slice (some ⟨g, 0, none⟩) n cap, .int .i64 0] 42)).alloc (.cells #[.int .i64 X, .slice (some ⟨g', 0, none⟩) n cap', .int .i64 0] 42)) fun e w' => e = .returned (.bool true) ∧ Below ((w.alloc (.cells #[.int .i64 X, .slice (some ⟨g, 0, none⟩) n cap, .int .i64 0] 42)).alloc (.cells #[.int .i64 X, .slice (some ⟨g', 0, none⟩) n cap', .int .i64 0] 42)).heap.size ((w.alloc (.cells #[.int .i64 X, .slice (some ⟨g, 0, none⟩) n cap, .int .i64 0] 42)).alloc (.cells #[.int .i64 X, .slice (some ⟨g', 0, none⟩) n cap', .int .i64 0] 42)) w') := H
  clear h h' T0
  have hxx : ∀ x : Int, (x != x) = false := fun x => by simp
  go_enter Tryd.func32, Tryd.ntmps32
  go_wp2_with fail
  refine H.out.mono ?_
  rintro e w1 ⟨rfl, hb1⟩
  have T1 := (two_new w #[.int .i64 X, .slice (some ⟨g, 0, none⟩) n cap, .int .i64 0] #[.int .i64 X, .slice (some ⟨g', 0, none⟩) n cap', .int .i64 0] 42 42).next hb1
  have c1 := T1.box
  have r1 := T1.res
  have HB : Hid (Below w.heap.size w w1) := T1.bel
  clear hb1 T1 H
  go_wp2_with fail
  go_ret
  exact ⟨rfl, HB.out⟩

end Go.Proofs.YtgkfjopbcphnhaaDoor
