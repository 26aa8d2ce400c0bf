/- A due day's row, of the program (row) and of its model (l04Row): what each call does. -/
import Derived.Test.YtnefcldjigndgaaGreatDoorPlanDue
import Derived.Deep.RegionHeld3
import Derived.Deep.DeepCutAuto
namespace Go.Proofs.YtnefcldjigndgaaGreatDoor
open Go.RowKit

/-- A row: the due day, the interest, what is paid of what was left and the interest, and what is left. -/
def rowV (d i a pay : Int) : Value := .agg #[.int .i64 d, .int .i64 i, .int .i64 (min pay (a + i)), .int .i64 (payI a i pay)]

theorem new_block4 {w w1 : World} {c0 c1 c2 c3 : Value} {ty : TypeId} (hb : Below (w.alloc (.cells #[c0, c1, c2, c3] ty)).drew.heap.size (w.alloc (.cells #[c0, c1, c2, c3] ty)).drew w1) : w1.cell? ⟨w.heap.size, 0, none⟩ = some c0 ∧ w1.cell? ⟨w.heap.size, 1, none⟩ = some c1 ∧ w1.cell? ⟨w.heap.size, 2, none⟩ = some c2 ∧ w1.cell? ⟨w.heap.size, 3, none⟩ = some c3 ∧ ∀ j, w1.frozen? ⟨w.heap.size, j, none⟩ = false := by
  have h : ∀ j, w1.cell? ⟨w.heap.size, j, none⟩ = (#[c0, c1, c2, c3] : Array Value)[j]? := fun j => (hb.cell (p := ⟨w.heap.size, j, none⟩) (by simp)).trans (by rw [World.cell?_drew, World.cell?_alloc_new])
  exact ⟨h 0, h 1, h 2, h 3, fun j => (hb.frozen (p := ⟨w.heap.size, j, none⟩) (by simp)).trans (by rw [World.frozen?_drew, World.frozen?_alloc_new])⟩
theorem new_block {w w1 : World} {cs : Array Value} {ty : TypeId} (hb : Below (w.alloc (.cells cs ty)).drew.heap.size (w.alloc (.cells cs ty)).drew w1) : (∀ j, w1.cell? ⟨w.heap.size, j, none⟩ = cs[j]?) ∧ ∀ j, w1.frozen? ⟨w.heap.size, j, none⟩ = false :=
  ⟨fun j => (hb.cell (p := ⟨w.heap.size, j, none⟩) (by simp)).trans (by rw [World.cell?_drew, World.cell?_alloc_new]), fun j => (hb.frozen (p := ⟨w.heap.size, j, none⟩) (by simp)).trans (by rw [World.frozen?_drew, World.frozen?_alloc_new])⟩
theorem new_block' {w w1 : World} {cs : Array Value} {ty : TypeId} (hb : Below (w.drew.alloc (.cells cs ty)).heap.size (w.drew.alloc (.cells cs ty)) w1) : (∀ j, w1.cell? ⟨w.heap.size, j, none⟩ = cs[j]?) ∧ ∀ j, w1.frozen? ⟨w.heap.size, j, none⟩ = false := new_block (w := w) hb

set_option maxRecDepth 100000 in
set_option maxHeartbeats 4000000 in
theorem impl_row {p r b s t : Int} (h : LoanOk p r b s t) (k : Nat) (hk : (k : Int) < t) {a pay : Int} (a0 : 0 ≤ a) (a1 : a ≤ 500000000000) (y0 : 0 ≤ pay) (y1 : pay ≤ 20000000000) (g : Addr) (n cap : Nat) (w : World) (hM : Mon w) (hL : Lay w) :
    Calls Tryz.prog 84 #[.agg #[.int .i64 p, .int .i64 r, .int .i64 b, .int .i64 s, .int .i64 t, .slice (some g) n cap], .int .i64 (dueI s k), .int .i64 (dueI s (k + 1)), .int .i64 a, .int .i64 pay] w
      fun e w' => e = .returned (rowV (dueI s (k + 1)) (intN r b s k a) a pay) ∧ Below w.heap.size w w' := by
  obtain ⟨eI, i1⟩ := h.int k hk a0 a1
  have i0 := intN_nonneg r b s k a
  have H1 : Hid (∀ w, Mon w → Lay w → Calls Tryz.prog 85 #[.int .i64 a, .int .i64 r, .int .i64 b, .int .i64 (dueI s k), .int .i64 (dueI s (k + 1))] w fun e w' => e = .returned (.agg #[.int .i64 (intN r b s k a), .int .i64 0]) ∧ Below w.heap.size w w') := fun w hM hL => by
    have := impl_Interest a r b (dueI s k) (dueI s (k + 1)) w hM hL
    rw [eI] at this
    exact this
  clear eI h hk
  generalize dueI s k = x at *
  generalize dueI s (k + 1) = y at *
  generalize intN r b s k a = i at *
  have fld : ∀ w, (Instr.field 24 (.agg #[.int .i64 i, .int .i64 0]) 0).run Tryz.prog w = .ok (.int .i64 i) w := fun w => by kernel_rfl
  have HM : Hid (Mon w) := hM
  have HL : Hid (Lay w) := hL
  clear hM hL
  go_enter Tryz.func84, Tryz.ntmps84
  go_wp2_with fail
  refine (H1.out _ (by exact (HM.out.alloc _).alloc _) (by exact (HL.out.below ((Below.refl _ _).alloc (Nat.le_refl _) _)).below ((Below.refl _ _).alloc (Nat.le_refl _) _))).mono ?_
  rintro e w1 ⟨rfl, hb1⟩
  have HB1 : Hid (Below w.heap.size w w1) := (((Below.refl _ _).alloc (Nat.le_refl _) _).alloc (by simp) _).trans (hb1.mono (by simp; omega))
  have hs1 : w.heap.size + 2 ≤ w1.heap.size := by have := hb1.size; simpa using this
  have cR : ∀ j, w1.cell? ⟨w.heap.size + 1, j, none⟩ = (#[.int .i64 0, .int .i64 0, .int .i64 0, .int .i64 0] : Array Value)[j]? := fun j => (hb1.cell (p := ⟨w.heap.size + 1, j, none⟩) (by simp)).trans (cell_new_at (by simp) j)
  have fR : ∀ j, w1.frozen? ⟨w.heap.size + 1, j, none⟩ = false := fun j => (hb1.frozen (p := ⟨w.heap.size + 1, j, none⟩) (by simp)).trans (frozen_new_at (by simp) j)
  clear hb1 HM HL
  by_cases hc : pay ≤ a + i
  · have HR : Hid (rowV y i a pay = .agg #[.int .i64 y, .int .i64 i, .int .i64 pay, .int .i64 (a + i - pay)]) := by
      unfold Hid rowV payI; rw [show min pay (a + i) = pay by omega]
    have hmn : min pay (a + i) = pay := by omega
    go_wp2_with fail
    refine bodyPost_ret (v := rowV y i a pay) ?_ rfl ⟨rfl, ?_⟩
    · rw [HR.out]
      simp [results, Tryz.results84, go_sem, cR]
    · exact ((((HB1.out.setCell (by first | omega | (simp; done) | (simp; omega)) _).setCell (by first | omega | (simp; done) | (simp; omega)) _).setCell (by first | omega | (simp; done) | (simp; omega)) _).setCell (by first | omega | (simp; done) | (simp; omega)) _)
  · have HR : Hid (rowV y i a pay = .agg #[.int .i64 y, .int .i64 i, .int .i64 (a + i), .int .i64 0]) := by
      unfold Hid rowV payI; rw [show min pay (a + i) = a + i by omega, Int.sub_self]
    have hmn : min pay (a + i) = a + i := by omega
    go_wp2_with fail
    refine bodyPost_ret (v := rowV y i a pay) ?_ rfl ⟨rfl, ?_⟩
    · rw [HR.out]
      simp [results, Tryz.results84, go_sem, cR]
    · exact ((((HB1.out.setCell (by first | omega | (simp; done) | (simp; omega)) _).setCell (by first | omega | (simp; done) | (simp; omega)) _).setCell (by first | omega | (simp; done) | (simp; omega)) _).setCell (by first | omega | (simp; done) | (simp; omega)) _)
set_option maxRecDepth 100000 in
set_option maxHeartbeats 4000000 in
theorem spec_row {p r b s t : Int} (h : LoanOk p r b s t) (k K : Nat) (hK : K = k + 1) (hk : (k : Int) < t) {a pay : Int} (a0 : 0 ≤ a) (a1 : a ≤ 500000000000) (y0 : 0 ≤ pay) (y1 : pay ≤ 20000000000) (n : Nat) (hn : t = n) (v : Value) (w : World) (hv : Due w v s (n + 1)) :
    Calls Tryz.prog 59 #[.agg #[.int .i64 p, .int .i64 r, .int .i64 b, .int .i64 s, .int .i64 t], v, .int .i64 K, .int .i64 a, .int .i64 pay] w
      fun e w' => e = .returned (rowV (dueI s (k + 1)) (intN r b s k a) a pay) ∧ Below w.heap.size w w' := by
  obtain ⟨eI, i1⟩ := h.int k hk a0 a1
  have i0 := intN_nonneg r b s k a
  have t1 := h.t1
  have H1 : Hid (∀ w, Calls Tryz.prog 10 #[.int .i64 a, .int .i64 r, .int .i64 b, .int .i64 (dueI s k), .int .i64 (dueI s (k + 1))] w fun e w' => e = .returned (.agg #[.int .i64 (intN r b s k a), .int .i64 0]) ∧ Below w.heap.size w w') := fun w => by
    have := spec_interest a r b (dueI s k) (dueI s (k + 1)) w
    rw [eI] at this
    exact this
  obtain ⟨g, cap, rfl, hg, hcell⟩ := hv
  have c0 := hcell k (by omega)
  have c1 : w.cell? ⟨g, K, none⟩ = some (.int .i64 (dueI s (k + 1))) := by subst hK; exact hcell (k + 1) (by omega)
  obtain ⟨N, hN⟩ : ∃ N, N = n + 1 := ⟨_, rfl⟩
  have hKN : K < N := by omega
  have hkN : k < N := by omega
  have hN1 : N ≤ 61 := by omega
  have hwk : IntKind.i64.wrap ((K : Int) - 1) = (k : Int) := by rw [IntWalk.i64_in _ (by omega)]; omega
  rw [← hN]
  clear eI h hcell hK hk hn hN t1
  generalize dueI s k = x at *
  generalize dueI s (k + 1) = y at *
  generalize intN r b s k a = i at *
  have fld : ∀ w, (Instr.field 24 (.agg #[.int .i64 i, .int .i64 0]) 0).run Tryz.prog w = .ok (.int .i64 i) w := fun w => by kernel_rfl
  obtain ⟨W0, hW0⟩ : ∃ W0, W0 = (w.alloc (.cells #[.int .i64 p, .int .i64 r, .int .i64 b, .int .i64 s, .int .i64 t] 34)).alloc (.cells #[.int .i64 0, .int .i64 0, .int .i64 0, .int .i64 0] 79) := ⟨_, rfl⟩
  have hs0 : W0.heap.size = w.heap.size + 2 := by rw [hW0]; simp
  have d0 : W0.cell? ⟨g, k, none⟩ = some (.int .i64 x) := by rw [hW0]; go_keep
  have d1 : W0.cell? ⟨g, K, none⟩ = some (.int .i64 y) := by rw [hW0]; go_keep
  have d2 : W0.cell? ⟨w.heap.size, 1, none⟩ = some (.int .i64 r) := by rw [hW0]; exact cell_at rfl 1
  have d3 : W0.cell? ⟨w.heap.size, 2, none⟩ = some (.int .i64 b) := by rw [hW0]; exact cell_at rfl 2
  have HR0 : Hid ((∀ j, W0.cell? ⟨w.heap.size + 1, j, none⟩ = (#[.int .i64 0, .int .i64 0, .int .i64 0, .int .i64 0] : Array Value)[j]?) ∧ ∀ j, W0.frozen? ⟨w.heap.size + 1, j, none⟩ = false) := by
    rw [Hid, hW0]; exact ⟨fun j => cell_new_at (by simp) j, fun j => frozen_new_at (by simp) j⟩
  have HB0 : Hid (Below w.heap.size w W0) := by rw [Hid, hW0]; exact ((Below.refl _ _).alloc (Nat.le_refl _) _).alloc (by simp) _
  go_enter Tryz.func59, Tryz.ntmps59
  go_wp2_with fail
  rw [← hW0]
  clear hW0 c0 c1
  have hs0' : w.heap.size < W0.heap.size := by omega
  have hg' : g < W0.heap.size := by omega
  clear hg
  have n0 : W0.heap.size ≠ g := by omega
  have n1 : W0.heap.size ≠ w.heap.size := by omega
  have HS0 : Hid (W0.heap.size = w.heap.size + 2) := hs0
  clear hs0
  go_upto_region 1 with fail
  go_cut [11] (fun v W => ∃ q : Nat, v = .pointer (some ⟨q, 0, none⟩) ∧ W.cell? ⟨q, 0, none⟩ = some (.int .i64 y) ∧ W.cell? ⟨q, 1, none⟩ = some (.int .i64 i) ∧ W.cell? ⟨q, 2, none⟩ = some (.int .i64 0) ∧ W.cell? ⟨q, 3, none⟩ = some (.int .i64 0) ∧ (∀ j, W.frozen? ⟨q, j, none⟩ = false) ∧ (∀ j, W.cell? ⟨w.heap.size + 1, j, none⟩ = (#[.int .i64 0, .int .i64 0, .int .i64 0, .int .i64 0] : Array Value)[j]?) ∧ (∀ j, W.frozen? ⟨w.heap.size + 1, j, none⟩ = false) ∧ w.heap.size + 1 < q ∧ Hid (Below w.heap.size w W))
  case first =>
    go_region_held3 (fun W => W.cell? ⟨g, k, none⟩ = some (.int .i64 x) ∧ W.cell? ⟨g, K, none⟩ = some (.int .i64 y) ∧ W.cell? ⟨w.heap.size, 1, none⟩ = some (.int .i64 r) ∧ W.cell? ⟨w.heap.size, 2, none⟩ = some (.int .i64 b)) (go_keep) (first | (go_at_call 10; refine (H1.out _).mono ?_; rintro e w1 ⟨rfl, hb1⟩; have hs1 : W0.heap.size ≤ w1.heap.size := (by have := hb1.size; simp at this; omega); have x1 : w1.cell? ⟨g, k, none⟩ = some (.int .i64 x) := (hb1.cell (p := ⟨g, k, none⟩) (by simp; omega)).trans (by go_keep); have x2 : w1.cell? ⟨g, K, none⟩ = some (.int .i64 y) := (hb1.cell (p := ⟨g, K, none⟩) (by simp; omega)).trans (by go_keep); have x3 : w1.cell? ⟨w.heap.size, 1, none⟩ = some (.int .i64 r) := (hb1.cell (p := ⟨w.heap.size, 1, none⟩) (by simp; omega)).trans (by go_keep); have x4 : w1.cell? ⟨w.heap.size, 2, none⟩ = some (.int .i64 b) := (hb1.cell (p := ⟨w.heap.size, 2, none⟩) (by simp; omega)).trans (by go_keep); have n2 : w1.heap.size ≠ g := (by omega); have n3 : w1.heap.size ≠ w.heap.size := (by omega); first | (have hz := new_block4 hb1; obtain ⟨z1, z2, z3, z4, z5⟩ := hz) | skip))
    · have hq0 := HS0.out
      have cR : ∀ j, w1.cell? ⟨w.heap.size + 1, j, none⟩ = (#[.int .i64 0, .int .i64 0, .int .i64 0, .int .i64 0] : Array Value)[j]? := fun j => (hb1.cell (p := ⟨w.heap.size + 1, j, none⟩) (by first | omega | (simp; omega))).trans ((World.cell?_drew _ _).trans (HR0.out.1 j))
      have fR : ∀ j, w1.frozen? ⟨w.heap.size + 1, j, none⟩ = false := fun j => (hb1.frozen (p := ⟨w.heap.size + 1, j, none⟩) (by first | omega | (simp; omega))).trans ((World.frozen?_drew _ _).trans (HR0.out.2 j))
      have HBn : Hid (Below w.heap.size w w1) := HB0.out.drew.trans (hb1.mono (by first | omega | (simp; omega)))
      clear hb1
      go_wp2_with fail
      go_meet
      exact ⟨w1.heap.size, rfl, by simp, by simp, by simp, by simp, fun j => frozen_new_at rfl j, fun j => (World.cell?_alloc_past _ _ _ (by first | omega | (simp; omega))).trans (cR j), fun j => (World.frozen?_alloc_past _ _ _ (by first | omega | (simp; omega))).trans (fR j), by omega, HBn.out.alloc (by omega) _⟩
    · have hq0 := HS0.out
      have cR : ∀ j, w1.cell? ⟨w.heap.size + 1, j, none⟩ = (#[.int .i64 0, .int .i64 0, .int .i64 0, .int .i64 0] : Array Value)[j]? := fun j => (hb1.cell (p := ⟨w.heap.size + 1, j, none⟩) (by first | omega | (simp; omega))).trans ((World.cell?_drew _ _).trans ((World.cell?_alloc_past _ _ _ (by first | omega | (simp; omega))).trans (HR0.out.1 j)))
      have fR : ∀ j, w1.frozen? ⟨w.heap.size + 1, j, none⟩ = false := fun j => (hb1.frozen (p := ⟨w.heap.size + 1, j, none⟩) (by first | omega | (simp; omega))).trans ((World.frozen?_drew _ _).trans ((World.frozen?_alloc_past _ _ _ (by first | omega | (simp; omega))).trans (HR0.out.2 j)))
      have HBn : Hid (Below w.heap.size w w1) := (HB0.out.alloc (by omega) _).drew.trans (hb1.mono (by first | omega | (simp; omega)))
      clear hb1
      go_wp2_with fail
      go_meet
      have hne : W0.heap.size ≠ w.heap.size + 1 := by omega
      exact ⟨W0.heap.size, rfl, by simp [go_sem, z1], by simp [go_sem, z2], by simp [go_sem, z3], by simp [go_sem, z4], fun j => by simp [z5], fun j => by simp [World.cell?_setCell_far, hne, cR], fun j => by simp [fR], by omega, ((((HBn.out.setCell (by first | omega | (simp; omega)) _).setCell (by first | omega | (simp; omega)) _).setCell (by first | omega | (simp; omega)) _).setCell (by first | omega | (simp; omega)) _)⟩
  case rest =>
  obtain ⟨q, rfl, e0, e1, e2, e3, fq, cR, fR, hq, HBc⟩ := hcut
  have nq0 : q ≠ w.heap.size + 1 := by omega
  have nq1 : w.heap.size + 1 ≠ q := by omega
  clear hs0' n0 n1 d0 d1 d2 d3 HS0 HB0 HR0 hwk hKN hkN hN1 hg'
  by_cases hc : pay ≤ a + i
  · have HR : Hid (rowV y i a pay = .agg #[.int .i64 y, .int .i64 i, .int .i64 pay, .int .i64 (a + i - pay)]) := by
      unfold Hid rowV payI; rw [show min pay (a + i) = pay by omega]
    have H2 : Hid (∀ w, Calls Tryz.prog 18 #[.int .i64 pay, .int .i64 (a + i)] w fun e w' => e = .returned (.int .i64 pay) ∧ w' = w) := fun w => by
      have := spec_min pay (a + i) w
      rw [show min pay (a + i) = pay by omega] at this
      exact this
    go_wp2_with fail
    refine (H2.out _).mono ?_
    rintro e w2 ⟨rfl, rfl⟩
    go_wp2_with fail
    refine bodyPost_ret (v := rowV y i a pay) ?_ rfl ⟨rfl, ?_⟩
    · rw [HR.out]
      simp [results, Tryz.results59, go_sem, cR]
    · exact ((((((HBc.out.setCell (by first | omega | (simp; done) | (simp; omega)) _).setCell (by first | omega | (simp; done) | (simp; omega)) _).setCell (by first | omega | (simp; done) | (simp; omega)) _).setCell (by first | omega | (simp; done) | (simp; omega)) _).setCell (by first | omega | (simp; done) | (simp; omega)) _).setCell (by first | omega | (simp; done) | (simp; omega)) _)
  · have HR : Hid (rowV y i a pay = .agg #[.int .i64 y, .int .i64 i, .int .i64 (a + i), .int .i64 0]) := by
      unfold Hid rowV payI; rw [show min pay (a + i) = a + i by omega, Int.sub_self]
    have H2 : Hid (∀ w, Calls Tryz.prog 18 #[.int .i64 pay, .int .i64 (a + i)] w fun e w' => e = .returned (.int .i64 (a + i)) ∧ w' = w) := fun w => by
      have := spec_min pay (a + i) w
      rw [show min pay (a + i) = a + i by omega] at this
      exact this
    go_wp2_with fail
    refine (H2.out _).mono ?_
    rintro e w2 ⟨rfl, rfl⟩
    go_wp2_with fail
    refine bodyPost_ret (v := rowV y i a pay) ?_ rfl ⟨rfl, ?_⟩
    · rw [HR.out]
      simp [results, Tryz.results59, go_sem, cR]
    · exact ((((((HBc.out.setCell (by first | omega | (simp; done) | (simp; omega)) _).setCell (by first | omega | (simp; done) | (simp; omega)) _).setCell (by first | omega | (simp; done) | (simp; omega)) _).setCell (by first | omega | (simp; done) | (simp; omega)) _).setCell (by first | omega | (simp; done) | (simp; omega)) _).setCell (by first | omega | (simp; done) | (simp; omega)) _)
end Go.Proofs.YtnefcldjigndgaaGreatDoor
