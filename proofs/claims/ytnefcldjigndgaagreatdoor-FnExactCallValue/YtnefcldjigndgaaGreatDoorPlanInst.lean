/- The least pay that leaves nothing, of the program (left, instalment, least) and of its model (l04Instalment): what each call does. -/
import Derived.Test.YtnefcldjigndgaaGreatDoorPlanRows
namespace Go.Proofs.YtnefcldjigndgaaGreatDoor
open Go.RowKit

set_option maxRecDepth 100000 in
set_option maxHeartbeats 4000000 in
theorem impl_left {p r b s : Int} {n : Nat} (h : LoanOk p r b s n) {pay : Int} (y0 : 0 ≤ pay) (y1 : pay ≤ 20000000000) (v : Value) (w : World) (hv : Due w v s (n + 1)) (hM : Mon w) (hL : Lay w) :
    Calls Tryz.prog 74 #[.agg #[.int .i64 p, .int .i64 r, .int .i64 b, .int .i64 s, .int .i64 (n : Int), v], .int .i64 pay] w fun e w' => e = .returned (.int .i64 (leftI p r b s pay n)) ∧ Below w.heap.size w w' := by
  have t0 := h.t0
  have t1 := h.t1
  have HH : Hid (∀ w, Due w v s (n + 1) → Mon w → Lay w → Calls Tryz.prog 82 #[.agg #[.int .i64 p, .int .i64 r, .int .i64 b, .int .i64 s, .int .i64 (n : Int), v], .int .i64 pay] w fun e w' => ∃ u, e = .returned u ∧ w'.ownsRow w.heap.size 79 4 u n (rowsC p r b s pay n) ∧ Below w.heap.size w w') := fun w a b c => impl_rows h y0 y1 v w a b c
  have HV : Hid (Due w v s (n + 1)) := hv
  obtain ⟨g, cap, rfl, _, _⟩ := hv
  obtain ⟨N, hN⟩ : ∃ N, n = N + 1 := ⟨n - 1, by omega⟩
  have HC : Hid ((rowsC p r b s pay n)[N * 4 + 3]? = some (.int .i64 (leftI p r b s pay n))) := by
    rw [Hid, rowsC_at p r b s pay N 3 (by omega) n (by omega), hN]; rfl
  have hw1 : IntKind.i64.wrap ((n : Int) - 1) = (N : Int) := by rw [IntWalk.i64_in _ (by omega)]; omega
  have hw2 : (n : Int) - 1 = (N : Int) := by omega
  have hNn : N < n := by omega
  clear hN h
  have HM : Hid (Mon w) := hM
  have HL : Hid (Lay w) := hL
  clear hM hL
  go_enter Tryz.func74, Tryz.ntmps74
  go_wp2_with fail
  refine (HH.out _ (by exact HV.out.below ((Below.refl _ _).alloc (Nat.le_refl _) _)) (by exact HM.out.alloc _) (by exact HL.out.below ((Below.refl _ _).alloc (Nat.le_refl _) _))).mono ?_
  rintro e w1 ⟨u, rfl, hown, hb1⟩
  obtain ⟨gg, cp, rfl⟩ : ∃ gg cp, u = .slice (some ⟨gg, 0, none⟩) n cp := by
    rcases hown.2 with ⟨_, h0⟩ | ⟨gg, cp, _, e, _⟩
    · omega
    · exact ⟨gg, cp, e⟩
  have hc : w1.cell? ⟨gg, N * 4 + 3, none⟩ = some (.int .i64 (leftI p r b s pay n)) := (hown.cellAt _ (by omega)).trans HC.out
  have HB1 : Hid (Below w.heap.size w w1) := ((Below.refl _ _).alloc (Nat.le_refl _) _).trans (hb1.mono (by simp))
  clear hb1 hown HC
  go_wp2_with fail
  go_ret
  exact ⟨rfl, HB1.out⟩

/-- What the middle of two numbers is. -/
theorem mid_facts {l h : Nat} (hl : l < h) : ∃ D M m : Nat, (h : Int) - (l : Int) = (D : Int) ∧ (D : Int).tdiv 2 = (M : Int) ∧ (l : Int) + (M : Int) = (m : Int) ∧ l ≤ m ∧ m < h ∧ D ≤ h ∧ M ≤ h ∧ ((l : Int) + (h : Int)).tdiv 2 = (m : Int) := by
  refine ⟨h - l, (h - l) / 2, l + (h - l) / 2, by omega, ?_, by omega, by omega, by omega, by omega, by omega, ?_⟩
  · rw [Int.tdiv_eq_ediv_of_nonneg (by omega)]; omega
  · rw [Int.tdiv_eq_ediv_of_nonneg (by omega)]; omega

set_option maxRecDepth 100000 in
set_option maxHeartbeats 4000000 in
theorem impl_least (X : Nat) (hX : X ≤ 20000000000) (q : Nat) (w : World)
    (hcl : ∀ (m : Nat) W, m ≤ 20000000000 → Below w.heap.size w W → Calls Tryz.prog 73 #[.int .i64 m, .pointer (some ⟨q, 0, none⟩)] W fun e w' => e = .returned (.bool (decide (X ≤ m))) ∧ Below W.heap.size W w') :
    Calls Tryz.prog 72 #[.int .i64 0, .int .i64 20000000000, .func (.func 73) #[] #[.pointer (some ⟨q, 0, none⟩)]] w fun e w' => e = .returned (.int .i64 X) ∧ Below w.heap.size w w' := by
  have HC : Hid (∀ (m : Nat) W, m ≤ 20000000000 → Below w.heap.size w W → Calls Tryz.prog 73 #[.int .i64 m, .pointer (some ⟨q, 0, none⟩)] W fun e w' => e = .returned (.bool (decide (X ≤ m))) ∧ Below W.heap.size W w') := hcl
  clear hcl
  go_enter Tryz.func72, Tryz.ntmps72
  go_wp2_with fail
  go_loopw [0, 1] (fun lo hi wr => ∃ l h : Nat, lo = .int .i64 l ∧ hi = .int .i64 h ∧ l ≤ X ∧ X ≤ h ∧ h ≤ 20000000000 ∧ Below w.heap.size w wr) (fun lo hi _ => (intOf hi).toNat - (intOf lo).toNat)
  case atStart => exact ⟨0, 20000000000, rfl, rfl, by omega, hX, by omega, Below.refl _ _⟩
  case round =>
    obtain ⟨l, h, rfl, rfl, l0, l1, l2, hb⟩ := hrel
    have HB : Hid (Below w.heap.size w wr) := hb
    clear hb
    by_cases hl : l < h
    · have q0 : decide (l < h) = true := by simpa using hl
      have q1 : decide ((l : Int) < (h : Int)) = true := by simpa using hl
      obtain ⟨D, M, m, f0, f1, f2, m0, m1, m2, m3, _⟩ := mid_facts hl
      have H := HC.out m wr (by omega) HB.out
      have g1 : (l : Int) + (M : Int) ≤ 20000000000 := by omega
      by_cases hx : X ≤ m
      · rw [decide_eq_true hx] at H
        have H : Hid (Calls Tryz.prog 73 #[.int .i64 m, .pointer (some ⟨q, 0, none⟩)] wr fun e w' => e = .returned (.bool true) ∧ Below wr.heap.size wr w') := H
        go_wp2_with fail
        refine H.out.mono ?_
        rintro e w1 ⟨rfl, hb1⟩
        have HB1 : Hid (Below w.heap.size w w1) := HB.out.trans (hb1.mono HB.out.size)
        clear hb1 H
        go_wp2
        go_roundw
        case rel => exact ⟨l, m, rfl, by go_num, l0, hx, by omega, HB1.out⟩
        case measure => simp [intOf]; omega
      · rw [decide_eq_false hx] at H
        have H : Hid (Calls Tryz.prog 73 #[.int .i64 m, .pointer (some ⟨q, 0, none⟩)] wr fun e w' => e = .returned (.bool false) ∧ Below wr.heap.size wr w') := H
        go_wp2_with fail
        refine H.out.mono ?_
        rintro e w1 ⟨rfl, hb1⟩
        have HB1 : Hid (Below w.heap.size w w1) := HB.out.trans (hb1.mono HB.out.size)
        clear hb1 H
        go_wp2
        go_roundw
        case rel => exact ⟨m + 1, h, by go_num, rfl, by omega, l1, by omega, HB1.out⟩
        case measure => simp [intOf]; omega
    · have q0 : decide (l < h) = false := by simpa using hl
      have q1 : decide ((l : Int) < (h : Int)) = false := by simpa using hl
      obtain rfl : l = X := by omega
      go_wp2_with fail
      go_ret
      exact ⟨rfl, HB.out⟩

theorem enough_eq {p r b s : Int} {n X : Nat} (hX : IsInst p r b s n X) (m : Nat) : (leftI p r b s (m : Int) n == 0) = decide (X ≤ m) := by
  by_cases h : X ≤ m
  · rw [decide_eq_true h, beq_iff_eq]; exact (hX.iff m).2 h
  · rw [decide_eq_false h]; exact beq_eq_false_iff_ne.2 fun e => h ((hX.iff m).1 e)

set_option maxRecDepth 100000 in
set_option maxHeartbeats 4000000 in
theorem impl_enough {p r b s : Int} {n : Nat} (h : LoanOk p r b s n) {X : Nat} (hX : IsInst p r b s n X) (m : Nat) (hm : m ≤ 20000000000) (v : Value) (q : Nat) (w : World) (hq : ∀ j, w.cell? ⟨q, j, none⟩ = (#[.int .i64 p, .int .i64 r, .int .i64 b, .int .i64 s, .int .i64 (n : Int), v] : Array Value)[j]?) (hv : Due w v s (n + 1)) (hM : Mon w) (hL : Lay w) :
    Calls Tryz.prog 73 #[.int .i64 m, .pointer (some ⟨q, 0, none⟩)] w fun e w' => e = .returned (.bool (decide (X ≤ m))) ∧ Below w.heap.size w w' := by
  have HR := enough_eq hX m
  have H := impl_left h (pay := (m : Int)) (by omega) (by omega) v w hv hM hL
  obtain ⟨g, cap, rfl, _, _⟩ := hv
  generalize leftI p r b s (m : Int) n = l at H HR
  have HR : Hid ((l == 0) = decide (X ≤ m)) := HR
  have H : Hid (Calls Tryz.prog 74 #[.agg #[.int .i64 p, .int .i64 r, .int .i64 b, .int .i64 s, .int .i64 (n : Int), .slice (some ⟨g, 0, none⟩) (n + 1) cap], .int .i64 m] w fun e w' => e = .returned (.int .i64 l) ∧ Below w.heap.size w w') := H
  clear hM hL h hX
  go_enter Tryz.func73, Tryz.ntmps73
  go_wp2_with fail
  refine H.out.mono ?_
  rintro e w1 ⟨rfl, hb1⟩
  have HB1 : Hid (Below w.heap.size w w1) := hb1
  clear hb1 H
  go_wp2_with fail
  go_ret
  exact ⟨by rw [← HR.out]; rfl, HB1.out⟩

set_option maxRecDepth 100000 in
set_option maxHeartbeats 4000000 in
theorem impl_inst {p r b s : Int} {n : Nat} (h : LoanOk p r b s n) {X : Nat} (hX : IsInst p r b s n X) (v : Value) (w : World) (hv : Due w v s (n + 1)) (hM : Mon w) (hL : Lay w) :
    Calls Tryz.prog 54 #[.agg #[.int .i64 p, .int .i64 r, .int .i64 b, .int .i64 s, .int .i64 (n : Int), v]] w fun e w' => e = .returned (.int .i64 X) ∧ Below w.heap.size w w' := by
  have hbx : Below w.heap.size w (w.alloc (.cells #[.int .i64 p, .int .i64 r, .int .i64 b, .int .i64 s, .int .i64 (n : Int), v] 72)) := (Below.refl _ _).alloc (Nat.le_refl _) _
  have H := impl_least X hX.high w.heap.size (w.alloc (.cells #[.int .i64 p, .int .i64 r, .int .i64 b, .int .i64 s, .int .i64 (n : Int), v] 72)) (fun m W hm hb => impl_enough h hX m hm v w.heap.size W (fun j => (hb.cell (p := ⟨w.heap.size, j, none⟩) (by simp)).trans (cell_new_at rfl j)) ((hv.below hbx).below hb) ((hM.below hbx).below hb) ((hL.below hbx).below hb))
  obtain ⟨g, cap, rfl, _, _⟩ := hv
  have HBX : Hid (Below w.heap.size w (w.alloc (.cells #[.int .i64 p, .int .i64 r, .int .i64 b, .int .i64 s, .int .i64 (n : Int), .slice (some ⟨g, 0, none⟩) (n + 1) cap] 72))) := hbx
  have H : Hid (Calls Tryz.prog 72 #[.int .i64 0, .int .i64 20000000000, .func (.func 73) #[] #[.pointer (some ⟨w.heap.size, 0, none⟩)]] (w.alloc (.cells #[.int .i64 p, .int .i64 r, .int .i64 b, .int .i64 s, .int .i64 (n : Int), .slice (some ⟨g, 0, none⟩) (n + 1) cap] 72)) fun e w' => e = .returned (.int .i64 X) ∧ Below (w.alloc (.cells #[.int .i64 p, .int .i64 r, .int .i64 b, .int .i64 s, .int .i64 (n : Int), .slice (some ⟨g, 0, none⟩) (n + 1) cap] 72)).heap.size (w.alloc (.cells #[.int .i64 p, .int .i64 r, .int .i64 b, .int .i64 s, .int .i64 (n : Int), .slice (some ⟨g, 0, none⟩) (n + 1) cap] 72)) w') := H
  clear h hX hM hL hbx
  go_enter Tryz.func54, Tryz.ntmps54
  go_wp2_with fail
  refine H.out.mono ?_
  rintro e w1 ⟨rfl, hb1⟩
  have HB1 : Hid (Below w.heap.size w w1) := HBX.out.trans (hb1.mono (by simp))
  clear hb1 H HBX
  go_wp2_with fail
  go_ret
  exact ⟨rfl, HB1.out⟩

set_option maxRecDepth 100000 in
set_option maxHeartbeats 4000000 in
theorem spec_inst {p r b s : Int} {n : Nat} (h : LoanOk p r b s n) {X : Nat} (hX : IsInst p r b s n X) (v : Value) (w : World) (hv : Due w v s (n + 1)) :
    Calls Tryz.prog 25 #[.agg #[.int .i64 p, .int .i64 r, .int .i64 b, .int .i64 s, .int .i64 (n : Int)], v] w fun e w' => e = .returned (.int .i64 X) ∧ Below w.heap.size w w' := by
  have hX1 := hX.high
  have HC : Hid (∀ (m : Nat), m ≤ 20000000000 → ∀ W, Due W v s (n + 1) → ∃ x : Int, (x == 0) = decide (X ≤ m) ∧ Calls Tryz.prog 43 #[.agg #[.int .i64 p, .int .i64 r, .int .i64 b, .int .i64 s, .int .i64 (n : Int)], v, .int .i64 m] W fun e w' => e = .returned (.int .i64 x) ∧ Below W.heap.size W w') := fun m hm W hv => ⟨_, enough_eq hX m, spec_left h (pay := (m : Int)) (by omega) (by omega) v W hv⟩
  have HV : Hid (Due w v s (n + 1)) := hv
  clear h hX hv
  go_enter Tryz.func25, Tryz.ntmps25
  go_wp2_with fail
  go_loopw [5, 6] (fun lo hi wr => ∃ l h : Nat, lo = .int .i64 l ∧ hi = .int .i64 h ∧ l ≤ X ∧ X ≤ h ∧ h ≤ 20000000000 ∧ Below (w.heap.size + 1) (w.alloc (.cells #[.int .i64 p, .int .i64 r, .int .i64 b, .int .i64 s, .int .i64 (n : Int)] 34)) wr) (fun lo hi _ => (intOf hi).toNat - (intOf lo).toNat)
  case atStart => exact ⟨0, 20000000000, rfl, rfl, by omega, hX1, by omega, Below.refl _ _⟩
  case round =>
    obtain ⟨l, h, rfl, rfl, l0, l1, l2, hb⟩ := hrel
    have cB : ∀ j, wr.cell? ⟨w.heap.size, j, none⟩ = (#[.int .i64 p, .int .i64 r, .int .i64 b, .int .i64 s, .int .i64 (n : Int)] : Array Value)[j]? := fun j => (hb.cell (p := ⟨w.heap.size, j, none⟩) (by simp)).trans (cell_new_at rfl j)
    have hsr : w.heap.size + 1 ≤ wr.heap.size := by have := hb.size; simpa using this
    have HB : Hid (Below (w.heap.size + 1) (w.alloc (.cells #[.int .i64 p, .int .i64 r, .int .i64 b, .int .i64 s, .int .i64 (n : Int)] 34)) wr) := hb
    have HBr : Hid (Below w.heap.size w wr) := ((Below.refl _ _).alloc (Nat.le_refl _) _).trans (hb.mono (by omega))
    clear hb
    by_cases hl : l < h
    · have q0 : decide (l < h) = true := by simpa using hl
      have q1 : decide ((l : Int) < (h : Int)) = true := by simpa using hl
      obtain ⟨_, _, m, _, _, _, m0, m1, _, _, f2⟩ := mid_facts hl
      obtain ⟨x, hx0, H⟩ := HC.out m (by omega) wr (HV.out.below HBr.out)
      have H : Hid (Calls Tryz.prog 43 #[.agg #[.int .i64 p, .int .i64 r, .int .i64 b, .int .i64 s, .int .i64 (n : Int)], v, .int .i64 m] wr fun e w' => e = .returned (.int .i64 x) ∧ Below wr.heap.size wr w') := H
      by_cases hx : X ≤ m
      · rw [decide_eq_true hx] at hx0
        go_wp2_with fail
        refine H.out.mono ?_
        rintro e w1 ⟨rfl, hb1⟩
        have HB1 : Hid (Below (w.heap.size + 1) (w.alloc (.cells #[.int .i64 p, .int .i64 r, .int .i64 b, .int .i64 s, .int .i64 (n : Int)] 34)) w1) := HB.out.trans (hb1.mono hsr)
        clear hb1 H
        go_wp2
        go_roundw
        case rel => exact ⟨l, m, rfl, by go_num, l0, hx, by omega, HB1.out⟩
        case measure => simp [intOf]; omega
      · rw [decide_eq_false hx] at hx0
        go_wp2_with fail
        refine H.out.mono ?_
        rintro e w1 ⟨rfl, hb1⟩
        have HB1 : Hid (Below (w.heap.size + 1) (w.alloc (.cells #[.int .i64 p, .int .i64 r, .int .i64 b, .int .i64 s, .int .i64 (n : Int)] 34)) w1) := HB.out.trans (hb1.mono hsr)
        clear hb1 H
        go_wp2
        go_roundw
        case rel => exact ⟨m + 1, h, by go_num, rfl, by omega, l1, by omega, HB1.out⟩
        case measure => simp [intOf]; omega
    · have q0 : decide (l < h) = false := by simpa using hl
      have q1 : decide ((l : Int) < (h : Int)) = false := by simpa using hl
      obtain rfl : l = X := by omega
      go_wp2_with fail
      go_ret
      exact ⟨rfl, HBr.out⟩
end Go.Proofs.YtnefcldjigndgaaGreatDoor
