/- The law that holds Plan against its model. -/
import Derived.Test.YtgkfjopbcphnhaaDoorPlanEq
namespace Go.Proofs.YtgkfjopbcphnhaaDoor
open Go.RowKit

/-- A block's cells. -/
def Blk (W : World) (A : Nat) (cs : Array Value) : Prop := A < W.heap.size ∧ ∀ j, W.cell? ⟨A, j, none⟩ = cs[j]?
theorem Blk.below {W W' : World} {A : Nat} {cs : Array Value} (h : Blk W A cs) (hb : Below W.heap.size W W') : Blk W' A cs := ⟨Nat.lt_of_lt_of_le h.1 hb.size, fun j => (hb.cell (p := ⟨A, j, none⟩) h.1).trans (h.2 j)⟩
theorem Blk.alloc {W : World} {A : Nat} {cs : Array Value} (h : Blk W A cs) (o : Obj) : Blk (W.alloc o) A cs := h.below ((Below.refl _ _).alloc (Nat.le_refl _) _)
theorem blk_new (W : World) (cs : Array Value) (t : TypeId) : Blk (W.alloc (.cells cs t)) W.heap.size cs := ⟨by simp, fun j => cell_new_at rfl j⟩
theorem Blk.grown {W W' : World} {A q : Nat} {cs : Array Value} (h : Blk W A cs) (hg : W.grownBy W' (some q)) (hne : A ≠ q) : Blk W' A cs :=
  ⟨Nat.lt_of_lt_of_le h.1 hg.size, fun j => (World.cell?_of_block (a := ⟨A, j, none⟩) (hg.block A h.1 (by simpa using hne))).trans (h.2 j)⟩
theorem One.grown {w W W' : World} {cs : Array Value} {q : Nat} (h : One w W cs) (hg : W.grownBy W' (some q)) (hq : w.heap.size < q) : One w W' cs :=
  ⟨fun j => (World.cell?_of_block (a := ⟨w.heap.size, j, none⟩) (hg.block _ (by have := h.size; simp; omega) (by simp; omega))).trans (h.box j), Nat.le_trans h.size hg.size, h.bel.grown hg h.bel.size (fun k hk => by cases hk; omega)⟩
theorem RowsIs.alloc {w : World} {g n : Nat} {F : Nat → Int} (h : RowsIs w g n F) (o : Obj) : RowsIs (w.alloc o) g n F := h.below ((Below.refl _ _).alloc (Nat.le_refl _) _)
theorem own_shape {w : World} {B e size n : Nat} {u : Value} {xs : List Value} (h : w.ownsRow B e size u n xs) (hn : 0 < n) : ∃ g cap, u = .slice (some ⟨g, 0, none⟩) n cap ∧ B ≤ g := by
  rcases h.2 with ⟨_, h0⟩ | ⟨g, cap, _, e, hB, _⟩
  · omega
  · exact ⟨g, cap, e, hB⟩


set_option maxRecDepth 100000 in
set_option maxHeartbeats 4000000 in
theorem eq_plan_no (w : World) :
    Calls Tryd.prog 32 #[.agg #[.int .i64 0, .slice none 0 0, .int .i64 1], .agg #[.int .i64 0, .slice none 0 0, .int .i64 1]] w fun e w' => e = .returned (.bool true) ∧ Below w.heap.size w w' := by
  go_enter Tryd.func32, Tryd.ntmps32
  go_wp2_with fail
  refine (eq_none _).mono ?_
  rintro e w1 ⟨rfl, rfl⟩
  go_wp2_with fail
  go_ret
  exact ⟨rfl, ((Below.refl _ _).alloc (Nat.le_refl _) _).alloc (by simp) _⟩

set_option maxRecDepth 100000 in
theorem mark_plan_no_rows (w : World) :
    Calls Tryd.prog 67 #[.slice none 0 0, .int .i64 1] w fun e w' => e = .returned (.int .i64 1) ∧ w' = w := by
  go_enter Tryd.func67, Tryd.ntmps67
  go_wp2_with fail
  refine wp_loop_rounds 1 ?_
  rw [rounds_succ]
  go_wp2
  go_ret
  exact ⟨rfl, rfl⟩
set_option maxRecDepth 100000 in
set_option maxHeartbeats 4000000 in
theorem mark_plan_no (w : World) :
    Calls Tryd.prog 33 #[.agg #[.int .i64 0, .slice none 0 0, .int .i64 1], .int .i64 1] w fun e w' => e = .returned (.int .i64 1) ∧ Below w.heap.size w w' := by
  go_enter Tryd.func33, Tryd.ntmps33
  go_wp2_with fail
  refine (mark_plan_no_rows _).mono ?_
  rintro e w1 ⟨rfl, rfl⟩
  go_wp2_with fail
  go_ret
  exact ⟨rfl, (Below.refl _ _).alloc (Nat.le_refl _) _⟩

set_option maxRecDepth 100000 in
theorem held_plan_no_rows (w : World) :
    Calls Tryd.prog 68 #[.slice none 0 0, .int .i64 1] w fun e w' => e = .returned (.int .i64 1) ∧ w' = w := by
  go_enter Tryd.func68, Tryd.ntmps68
  go_wp2_with fail
  refine wp_loop_rounds 1 ?_
  rw [rounds_succ]
  go_wp2
  go_ret
  exact ⟨rfl, rfl⟩
set_option maxRecDepth 100000 in
set_option maxHeartbeats 4000000 in
theorem held_plan_no (w : World) :
    Calls Tryd.prog 34 #[.agg #[.int .i64 0, .slice none 0 0, .int .i64 1], .int .i64 1] w fun e w' => e = .returned (.int .i64 1) ∧ Below w.heap.size w w' := by
  go_enter Tryd.func34, Tryd.ntmps34
  go_wp2_with fail
  refine (held_plan_no_rows _).mono ?_
  rintro e w1 ⟨rfl, rfl⟩
  go_wp2_with fail
  go_ret
  exact ⟨rfl, (Below.refl _ _).alloc (Nat.le_refl _) _⟩

set_option maxRecDepth 100000 in
set_option maxHeartbeats 8000000 in
theorem law_plan_no (p r b s t : Int) (hr : loanB p r b s t = false) (w : World) (hM : Mon w) :
    Calls Tryd.prog 11 #[.agg #[.int .i64 p, .int .i64 r, .int .i64 b, .int .i64 s, .int .i64 t]] w fun e w' => e = .returned (.bool true) ∧ Below w.heap.size w w' := by
  have HM : Hid (Mon w) := hM
  have HR : Hid (loanB p r b s t = false) := hr
  clear hM hr
  go_enter Tryd.func11, Tryd.ntmps11
  go_wp2_with fail
  refine (to_loan p r b s t _).mono ?_
  rintro e w1 ⟨rfl, hb1⟩
  have O1 : Hid (One w w1 #[.int .i64 p, .int .i64 r, .int .i64 b, .int .i64 s, .int .i64 t]) := (one_new _ _ _).next hb1
  clear hb1
  go_wp2_with fail
  refine (spec_Plan_no p r b s t HR.out _).mono ?_
  rintro e w2 ⟨rfl, hb2⟩
  have O2 : Hid (One w w2 #[.int .i64 p, .int .i64 r, .int .i64 b, .int .i64 s, .int .i64 t]) := O1.out.next hb2
  have c2 := O2.out.box
  have s2 : w.heap.size < w2.heap.size := O2.out.size
  clear hb2
  go_wp2_with fail
  refine (to_loan p r b s t _).mono ?_
  rintro e w3 ⟨rfl, hb3⟩
  have O3 : Hid (One w w3 #[.int .i64 p, .int .i64 r, .int .i64 b, .int .i64 s, .int .i64 t]) := (O2.out.alloc _).next hb3
  have A3 : Hid (Blk w3 w2.heap.size #[.int .i64 0, .slice none 0 0, .int .i64 1]) := (blk_new _ _ _).below hb3
  clear hb3 c2
  go_wp2_with fail
  refine (impl_Plan_no p r b s t HR.out _ (by exact HM.out.below O3.out.bel)).mono ?_
  rintro e w4 ⟨rfl, hb4⟩
  have O4 : Hid (One w w4 #[.int .i64 p, .int .i64 r, .int .i64 b, .int .i64 s, .int .i64 t]) := O3.out.next hb4
  have A4 : Hid (Blk w4 w2.heap.size #[.int .i64 0, .slice none 0 0, .int .i64 1]) := A3.out.below hb4
  have a4 := A4.out.2
  have s4 := A4.out.1
  clear hb4
  go_wp2_with fail
  refine (eq_plan_no _).mono ?_
  rintro e w5 ⟨rfl, hb5⟩
  have O5 : Hid (One w w5 #[.int .i64 p, .int .i64 r, .int .i64 b, .int .i64 s, .int .i64 t]) := (O4.out.alloc _).next hb5
  have A5 : Hid (Blk w5 w2.heap.size #[.int .i64 0, .slice none 0 0, .int .i64 1]) := (A4.out.alloc _).below hb5
  have B5 : Hid (Blk w5 w4.heap.size #[.int .i64 0, .slice none 0 0, .int .i64 1]) := (blk_new _ _ _).below hb5
  have b5 := B5.out.2
  clear hb5 a4
  go_wp2_with fail
  refine (mark_plan_no _).mono ?_
  rintro e w6 ⟨rfl, hb6⟩
  have O6 : Hid (One w w6 #[.int .i64 p, .int .i64 r, .int .i64 b, .int .i64 s, .int .i64 t]) := O5.out.next hb6
  have A6 : Hid (Blk w6 w2.heap.size #[.int .i64 0, .slice none 0 0, .int .i64 1]) := A5.out.below hb6
  have B6 : Hid (Blk w6 w4.heap.size #[.int .i64 0, .slice none 0 0, .int .i64 1]) := B5.out.below hb6
  have b6 := B6.out.2
  clear hb6 b5
  go_wp2_with fail
  refine (held_plan_no _).mono ?_
  rintro e w7 ⟨rfl, hb7⟩
  have O7 : Hid (One w w7 #[.int .i64 p, .int .i64 r, .int .i64 b, .int .i64 s, .int .i64 t]) := O6.out.next hb7
  have A7 : Hid (Blk w7 w2.heap.size #[.int .i64 0, .slice none 0 0, .int .i64 1]) := A6.out.below hb7
  have B7 : Hid (Blk w7 w4.heap.size #[.int .i64 0, .slice none 0 0, .int .i64 1]) := B6.out.below hb7
  have c7 := O7.out.box
  clear hb7 b6
  go_wp2_with fail
  refine (to_loan p r b s t _).mono ?_
  rintro e w8 ⟨rfl, hb8⟩
  have O8 : Hid (One w w8 #[.int .i64 p, .int .i64 r, .int .i64 b, .int .i64 s, .int .i64 t]) := O7.out.next hb8
  have A8 : Hid (Blk w8 w2.heap.size #[.int .i64 0, .slice none 0 0, .int .i64 1]) := A7.out.below hb8
  have B8 : Hid (Blk w8 w4.heap.size #[.int .i64 0, .slice none 0 0, .int .i64 1]) := B7.out.below hb8
  clear hb8 c7
  go_wp2_with fail
  refine (impl_Plan_no p r b s t HR.out _ (by exact HM.out.below O8.out.bel)).mono ?_
  rintro e w9 ⟨rfl, hb9⟩
  have O9 : Hid (One w w9 #[.int .i64 p, .int .i64 r, .int .i64 b, .int .i64 s, .int .i64 t]) := O8.out.next hb9
  have A9 : Hid (Blk w9 w2.heap.size #[.int .i64 0, .slice none 0 0, .int .i64 1]) := A8.out.below hb9
  have B9 : Hid (Blk w9 w4.heap.size #[.int .i64 0, .slice none 0 0, .int .i64 1]) := B8.out.below hb9
  have a9 := A9.out.2
  have s9 := A9.out.1
  clear hb9
  go_wp2_with fail
  refine (eq_plan_no _).mono ?_
  rintro e w10 ⟨rfl, hb10⟩
  have O10 : Hid (One w w10 #[.int .i64 p, .int .i64 r, .int .i64 b, .int .i64 s, .int .i64 t]) := (O9.out.alloc _).next hb10
  have B10 : Hid (Blk w10 w4.heap.size #[.int .i64 0, .slice none 0 0, .int .i64 1]) := (B9.out.alloc _).below hb10
  have b10 := B10.out.2
  clear hb10 a9
  go_wp2_with fail
  refine (held_plan_no _).mono ?_
  rintro e w11 ⟨rfl, hb11⟩
  have HB : Hid (Below w.heap.size w w11) := (O10.out.next hb11).bel
  clear hb11 b10
  go_wp2_with fail
  go_ret
  exact ⟨rfl, HB.out⟩

set_option maxRecDepth 100000 in
set_option maxHeartbeats 8000000 in
theorem law_plan_ok {p r b s : Int} {n : Nat} (h : LoanOk p r b s n) {X : Nat} (hX : IsInst p r b s n X) (w : World) (hM : Mon w) (hL : Lay w) :
    Calls Tryd.prog 11 #[.agg #[.int .i64 p, .int .i64 r, .int .i64 b, .int .i64 s, .int .i64 (n : Int)]] w fun e w' => e = .returned (.bool true) ∧ Below w.heap.size w w' := by
  have HM : Hid (Mon w) := hM
  have HL : Hid (Lay w) := hL
  clear hM hL
  have n0 : 0 < n := by have := h.t0; omega
  have n1 : n ≤ 60 := by have := h.t1; omega
  have HO : Hid (LoanOk p r b s n) := h
  have HX : Hid (IsInst p r b s n X) := hX
  clear h hX
  have q0 : decide (((n * 4 : Nat) : Int) + 1 < 0) = false := by simp; omega
  have q1 : decide ((n : Int) * 4 + 1 < 0) = false := by simp; omega
  have hxx : ∀ x : Int, (x != x) = false := fun x => by simp
  go_enter Tryd.func11, Tryd.ntmps11
  go_wp2_with fail
  refine (to_loan p r b s n _).mono ?_
  rintro e w1 ⟨rfl, hb1⟩
  have O1 : Hid (One w w1 #[.int .i64 p, .int .i64 r, .int .i64 b, .int .i64 s, .int .i64 (n : Int)]) := (one_new _ _ _).next hb1
  clear hb1
  go_wp2_with fail
  refine (spec_Plan_ok HO.out HX.out _).mono ?_
  rintro e w2 ⟨u, rfl, hown, hb2⟩
  obtain ⟨g, cap, rfl, hg1⟩ := own_shape hown n0
  have G2 : Hid (RowsIs w2 g n (rowF p r b s X)) := rows_own hown
  have O2 : Hid (One w w2 #[.int .i64 p, .int .i64 r, .int .i64 b, .int .i64 s, .int .i64 (n : Int)]) := O1.out.next hb2
  have c2 := O2.out.box
  have s2 : w.heap.size < w2.heap.size := O2.out.size
  clear hb2 hown hg1
  go_wp2_with fail
  refine (to_loan p r b s n _).mono ?_
  rintro e w3 ⟨rfl, hb3⟩
  have O3 : Hid (One w w3 #[.int .i64 p, .int .i64 r, .int .i64 b, .int .i64 s, .int .i64 (n : Int)]) := (O2.out.alloc _).next hb3
  have A3 : Hid (Blk w3 w2.heap.size #[.int .i64 X, .slice (some ⟨g, 0, none⟩) n cap, .int .i64 0]) := (blk_new _ _ _).below hb3
  have G3 : Hid (RowsIs w3 g n (rowF p r b s X)) := (G2.out.alloc _).below hb3
  have g3 := G3.out.1
  have s3 := A3.out.1
  clear hb3 c2
  go_wp2_with fail
  refine (impl_Plan_ok HO.out HX.out _ (by exact HM.out.below O3.out.bel) (by exact HL.out.below O3.out.bel)).mono ?_
  rintro e w4 ⟨u, rfl, hown, hb4⟩
  obtain ⟨g', cap', rfl, hg4⟩ := own_shape hown n0
  have K4 : Hid (RowsIs w4 g' n (rowF p r b s X)) := rows_own hown
  have F4 : Hid (∀ j, w4.frozen? ⟨g', j, none⟩ = false) := hown.frozenAt
  have O4 : Hid (One w w4 #[.int .i64 p, .int .i64 r, .int .i64 b, .int .i64 s, .int .i64 (n : Int)]) := O3.out.next hb4
  have A4 : Hid (Blk w4 w2.heap.size #[.int .i64 X, .slice (some ⟨g, 0, none⟩) n cap, .int .i64 0]) := A3.out.below hb4
  have G4 : Hid (RowsIs w4 g n (rowF p r b s X)) := G3.out.below hb4
  have a4 := A4.out.2
  have s4 := A4.out.1
  have k4 := K4.out.1
  have o3 := O3.out.size
  clear hb4 hown
  go_wp2_with fail
  refine (eq_plan X g' g n cap' cap (rowF p r b s X) n1 _ (by exact K4.out.alloc _) (by exact G4.out.alloc _)).mono ?_
  rintro e w5 ⟨rfl, hb5⟩
  have O5 : Hid (One w w5 #[.int .i64 p, .int .i64 r, .int .i64 b, .int .i64 s, .int .i64 (n : Int)]) := (O4.out.alloc _).next hb5
  have A5 : Hid (Blk w5 w2.heap.size #[.int .i64 X, .slice (some ⟨g, 0, none⟩) n cap, .int .i64 0]) := (A4.out.alloc _).below hb5
  have B5 : Hid (Blk w5 w4.heap.size #[.int .i64 X, .slice (some ⟨g', 0, none⟩) n cap', .int .i64 0]) := (blk_new _ _ _).below hb5
  have G5 : Hid (RowsIs w5 g n (rowF p r b s X)) := (G4.out.alloc _).below hb5
  have K5 : Hid (RowsIs w5 g' n (rowF p r b s X)) := (K4.out.alloc _).below hb5
  have F5 : Hid (∀ j, w5.frozen? ⟨g', j, none⟩ = false) := fun j => (hb5.frozen (p := ⟨g', j, none⟩) (by simp; omega)).trans ((World.frozen?_alloc_past _ _ _ k4).trans (F4.out j))
  have b5 := B5.out.2
  clear hb5 a4
  go_wp2_with fail
  refine (mark_plan X g' n cap' (rowF p r b s X) n1 _ K5.out F5.out).mono ?_
  rintro e w6 ⟨rfl, hk6, hg6⟩
  have O6 : Hid (One w w6 #[.int .i64 p, .int .i64 r, .int .i64 b, .int .i64 s, .int .i64 (n : Int)]) := O5.out.grown hg6 (by omega)
  have A6 : Hid (Blk w6 w2.heap.size #[.int .i64 X, .slice (some ⟨g, 0, none⟩) n cap, .int .i64 0]) := A5.out.grown hg6 (by omega)
  have B6 : Hid (Blk w6 w4.heap.size #[.int .i64 X, .slice (some ⟨g', 0, none⟩) n cap', .int .i64 0]) := B5.out.grown hg6 (by omega)
  have G6 : Hid (RowsIs w6 g n (rowF p r b s X)) := G5.out.grown hg6 (by omega)
  have K6 : Hid (RowsIs w6 g' n (fun j => (j : Int) + 1)) := hk6
  have b6 := B6.out.2
  clear hk6 hg6 b5
  go_wp2_with fail
  refine (held_plan X g' n cap' n1 _ K6.out).mono ?_
  rintro e w7 ⟨rfl, hb7⟩
  have O7 : Hid (One w w7 #[.int .i64 p, .int .i64 r, .int .i64 b, .int .i64 s, .int .i64 (n : Int)]) := O6.out.next hb7
  have A7 : Hid (Blk w7 w2.heap.size #[.int .i64 X, .slice (some ⟨g, 0, none⟩) n cap, .int .i64 0]) := A6.out.below hb7
  have B7 : Hid (Blk w7 w4.heap.size #[.int .i64 X, .slice (some ⟨g', 0, none⟩) n cap', .int .i64 0]) := B6.out.below hb7
  have G7 : Hid (RowsIs w7 g n (rowF p r b s X)) := G6.out.below hb7
  have K7 : Hid (RowsIs w7 g' n (fun j => (j : Int) + 1)) := K6.out.below hb7
  have c7 := O7.out.box
  clear hb7 b6
  go_wp2_with fail
  refine (to_loan p r b s n _).mono ?_
  rintro e w8 ⟨rfl, hb8⟩
  have O8 : Hid (One w w8 #[.int .i64 p, .int .i64 r, .int .i64 b, .int .i64 s, .int .i64 (n : Int)]) := O7.out.next hb8
  have A8 : Hid (Blk w8 w2.heap.size #[.int .i64 X, .slice (some ⟨g, 0, none⟩) n cap, .int .i64 0]) := A7.out.below hb8
  have B8 : Hid (Blk w8 w4.heap.size #[.int .i64 X, .slice (some ⟨g', 0, none⟩) n cap', .int .i64 0]) := B7.out.below hb8
  have G8 : Hid (RowsIs w8 g n (rowF p r b s X)) := G7.out.below hb8
  have K8 : Hid (RowsIs w8 g' n (fun j => (j : Int) + 1)) := K7.out.below hb8
  clear hb8 c7
  go_wp2_with fail
  refine (impl_Plan_ok HO.out HX.out _ (by exact HM.out.below O8.out.bel) (by exact HL.out.below O8.out.bel)).mono ?_
  rintro e w9 ⟨u, rfl, hown, hb9⟩
  obtain ⟨g2, cap2, rfl, _⟩ := own_shape hown n0
  have M9 : Hid (RowsIs w9 g2 n (rowF p r b s X)) := rows_own hown
  have O9 : Hid (One w w9 #[.int .i64 p, .int .i64 r, .int .i64 b, .int .i64 s, .int .i64 (n : Int)]) := O8.out.next hb9
  have A9 : Hid (Blk w9 w2.heap.size #[.int .i64 X, .slice (some ⟨g, 0, none⟩) n cap, .int .i64 0]) := A8.out.below hb9
  have B9 : Hid (Blk w9 w4.heap.size #[.int .i64 X, .slice (some ⟨g', 0, none⟩) n cap', .int .i64 0]) := B8.out.below hb9
  have G9 : Hid (RowsIs w9 g n (rowF p r b s X)) := G8.out.below hb9
  have K9 : Hid (RowsIs w9 g' n (fun j => (j : Int) + 1)) := K8.out.below hb9
  have a9 := A9.out.2
  have s9 := A9.out.1
  clear hb9 hown
  go_wp2_with fail
  refine (eq_plan X g2 g n cap2 cap (rowF p r b s X) n1 _ (by exact M9.out.alloc _) (by exact G9.out.alloc _)).mono ?_
  rintro e w10 ⟨rfl, hb10⟩
  have O10 : Hid (One w w10 #[.int .i64 p, .int .i64 r, .int .i64 b, .int .i64 s, .int .i64 (n : Int)]) := (O9.out.alloc _).next hb10
  have B10 : Hid (Blk w10 w4.heap.size #[.int .i64 X, .slice (some ⟨g', 0, none⟩) n cap', .int .i64 0]) := (B9.out.alloc _).below hb10
  have K10 : Hid (RowsIs w10 g' n (fun j => (j : Int) + 1)) := (K9.out.alloc _).below hb10
  have b10 := B10.out.2
  clear hb10 a9
  go_wp2_with fail
  refine (held_plan X g' n cap' n1 _ K10.out).mono ?_
  rintro e w11 ⟨rfl, hb11⟩
  have HB : Hid (Below w.heap.size w w11) := (O10.out.next hb11).bel
  clear hb11 b10
  go_wp2_with fail
  go_ret
  exact ⟨rfl, HB.out⟩

theorem law_plan (p r b s t : Int) (w : World) (hM : Mon w) (hL : Lay w) :
    Calls Tryd.prog 11 #[.agg #[.int .i64 p, .int .i64 r, .int .i64 b, .int .i64 s, .int .i64 t]] w fun e w' => e = .returned (.bool true) ∧ Below w.heap.size w w' := by
  obtain ⟨_, ⟨hr, _⟩ | ⟨n, X, rfl, hok, hX, _⟩⟩ := inst_of p r b s t
  · exact law_plan_no p r b s t hr w hM
  · exact law_plan_ok hok hX w hM hL
end Go.Proofs.YtgkfjopbcphnhaaDoor
