/- The law of InsRight. -/
import Derived.Test.YtkhjmjlmbeealaaDoorInsI
import Derived.Deep.RegionHeld3
namespace Go.Proofs.YtkhjmjlmbeealaaDoor
open Go.RowKit
open Go.Proofs.YtkhjmjlmbeealaaDoor.Draw

theorem OwnR.inss {w : World} {a : Option Addr} {n : Nat} {L : Nat → In} (h : OwnR w a n 3 (insF L)) : InsAt w a n L := by
  rcases h with h | ⟨g, rfl, h⟩
  · exact Or.inl h
  · exact h.inss
/-- A block, cell by cell. -/
structure Blk (w : World) (X : Nat) (cs : Array Value) : Prop where
  cell : ∀ j, w.cell? ⟨X, j, none⟩ = cs[j]?
  lt : X < w.heap.size
theorem Blk.new (w : World) (cs : Array Value) (t : TypeId) : Blk (w.alloc (.cells cs t)) w.heap.size cs := ⟨fun j => cnew' rfl j, by simp⟩
theorem Blk.below {w w' : World} {X : Nat} {cs : Array Value} (h : Blk w X cs) (hb : Below w.heap.size w w') : Blk w' X cs :=
  ⟨fun j => (hb.cell (p := ⟨X, j, none⟩) h.lt).trans (h.cell j), Nat.lt_of_lt_of_le h.lt hb.size⟩
set_option maxRecDepth 100000 in
set_option maxHeartbeats 16000000 in
theorem law_insRight (z0 z1 z2 z3 : Int) (a : Option Addr) (n c : Nat) (L : Nat → In) (hn : n ≤ maxLen) (o u v : Int) (w : World) (hS : ShaW w) (hA : InsAt w a n L) :
    Calls Tryd.prog 5 #[.agg #[.int .i64 z0, .int .i64 z1, .int .i64 z2, .int .i64 z3, .slice a n c], .agg #[.int .i64 o, .int .i64 u, .int .i64 v]] w fun e w' => e = .returned (.bool true) ∧ Below w.heap.size w w' := by
  have HA : Hid (InsAt w a n L) := hA
  have HS : Hid (ShaW w) := hS
  have HN : Hid (n ≤ maxLen) := hn
  have HX0 : Hid (Both w ((w.alloc (.cells #[.int .i64 z0, .int .i64 z1, .int .i64 z2, .int .i64 z3, .slice a n c] 29)).alloc (.cells #[.int .i64 o, .int .i64 u, .int .i64 v] 31)) #[.int .i64 z0, .int .i64 z1, .int .i64 z2, .int .i64 z3, .slice a n c] #[.int .i64 o, .int .i64 u, .int .i64 v]) := two_now w _ _ _ _
  clear hA hn hS
  go_enter Tryd.func5, Tryd.ntmps5
  have bx0 : ((w.alloc (.cells #[.int .i64 z0, .int .i64 z1, .int .i64 z2, .int .i64 z3, .slice a n c] 29)).alloc (.cells #[.int .i64 o, .int .i64 u, .int .i64 v] 31)).cell? ⟨w.heap.size, 0, none⟩ = some (.int .i64 z0) := HX0.out.box 0
  have bx1 : ((w.alloc (.cells #[.int .i64 z0, .int .i64 z1, .int .i64 z2, .int .i64 z3, .slice a n c] 29)).alloc (.cells #[.int .i64 o, .int .i64 u, .int .i64 v] 31)).cell? ⟨w.heap.size, 1, none⟩ = some (.int .i64 z1) := HX0.out.box 1
  have bx2 : ((w.alloc (.cells #[.int .i64 z0, .int .i64 z1, .int .i64 z2, .int .i64 z3, .slice a n c] 29)).alloc (.cells #[.int .i64 o, .int .i64 u, .int .i64 v] 31)).cell? ⟨w.heap.size, 2, none⟩ = some (.int .i64 z2) := HX0.out.box 2
  have bx3 : ((w.alloc (.cells #[.int .i64 z0, .int .i64 z1, .int .i64 z2, .int .i64 z3, .slice a n c] 29)).alloc (.cells #[.int .i64 o, .int .i64 u, .int .i64 v] 31)).cell? ⟨w.heap.size, 3, none⟩ = some (.int .i64 z3) := HX0.out.box 3
  have bx4 : ((w.alloc (.cells #[.int .i64 z0, .int .i64 z1, .int .i64 z2, .int .i64 z3, .slice a n c] 29)).alloc (.cells #[.int .i64 o, .int .i64 u, .int .i64 v] 31)).cell? ⟨w.heap.size, 4, none⟩ = some (.slice a n c) := HX0.out.box 4
  go_wp2_with fail
  refine (sz_mod z0 z1 z2 z3 a n c HN.out 1048576 (by omega) _).mono ?_
  rintro e w2 ⟨he, hb⟩
  have HX2 : Hid (Both w w2 #[.int .i64 z0, .int .i64 z1, .int .i64 z2, .int .i64 z3, .slice a n c] #[.int .i64 o, .int .i64 u, .int .i64 v]) := HX0.out.next hb
  clear hb HX0 bx0 bx1 bx2 bx3 bx4
  rcases he with rfl | ⟨q, rfl, hq, hnl⟩
  · have q1 : decide ((-1 : Int) < 0) = true := rfl
    have HB1 : Hid (Below w.heap.size w w2) := HX2.out.bel
    go_wp2_with fail
    go_ret
    exact ⟨rfl, HB1.out⟩
  have q1 : decide ((q : Int) < 0) = false := by simp
  have hnm : n ≤ 9223372036854775807 := by omega
  have HTA : Hid (∀ W, Below w.heap.size w W → Calls Tryd.prog 15 #[.agg #[.int .i64 z0, .int .i64 z1, .int .i64 z2, .int .i64 z3, .slice a n c]] W fun e w' => ∃ g, e = .returned (.agg #[.int .i64 z0, .int .i64 z1, .int .i64 z2, .int .i64 z3, .slice (some ⟨g, 0, none⟩) n n]) ∧ W.heap.size ≤ g ∧ g < w'.heap.size ∧ OwnR w' (some ⟨g, 0, none⟩) n 3 (insF L) ∧ Below W.heap.size W w') := fun W hb => to_mod z0 z1 z2 z3 a n c L (by omega) W (HA.out.below hb)
  have HSP : Hid (∀ g W, Calls Tryd.prog 14 #[.agg #[.int .i64 z0, .int .i64 z1, .int .i64 z2, .int .i64 z3, .slice (some ⟨g, 0, none⟩) n n], .agg #[.int .i64 o, .int .i64 u, .int .i64 v]] W fun e w' => e = .returned (.bool (insB z1 z2 z3 n o u v)) ∧ Below W.heap.size W w') := fun g W => spec_insRight z0 z1 z2 z3 (some ⟨g, 0, none⟩) n n (by omega) o u v W
  have HIP : Hid (∀ g W, Below w.heap.size w W → Calls Tryd.prog 17 #[.agg #[.int .i64 z0, .int .i64 z1, .int .i64 z2, .int .i64 z3, .slice (some ⟨g, 0, none⟩) n n], .agg #[.int .i64 o, .int .i64 u, .int .i64 v]] W fun e w' => e = .returned (.bool (insB z1 z2 z3 n o u v)) ∧ Below W.heap.size W w') := fun g W hb => impl_insRight z0 z1 z2 z3 (some ⟨g, 0, none⟩) n n (by omega) o u v W (HS.out.below hb)
  have HEQ : Hid (∀ g g' W, OwnR W (some ⟨g, 0, none⟩) n 3 (insF L) → OwnR W (some ⟨g', 0, none⟩) n 3 (insF L) → Calls Tryd.prog 18 #[.agg #[.int .i64 z0, .int .i64 z1, .int .i64 z2, .int .i64 z3, .slice (some ⟨g, 0, none⟩) n n], .agg #[.int .i64 z0, .int .i64 z1, .int .i64 z2, .int .i64 z3, .slice (some ⟨g', 0, none⟩) n n]] W fun e w' => e = .returned (.bool true) ∧ Below W.heap.size W w') := fun g g' W h h' => eq_mod z0 z1 z2 z3 (some ⟨g, 0, none⟩) (some ⟨g', 0, none⟩) n n n L (by omega) W h.inss h'.inss
  generalize insB z1 z2 z3 n o u v = V at *
  have bx0 : w2.cell? ⟨w.heap.size, 0, none⟩ = some (.int .i64 z0) := HX2.out.box 0
  have bx1 : w2.cell? ⟨w.heap.size, 1, none⟩ = some (.int .i64 z1) := HX2.out.box 1
  have bx2 : w2.cell? ⟨w.heap.size, 2, none⟩ = some (.int .i64 z2) := HX2.out.box 2
  have bx3 : w2.cell? ⟨w.heap.size, 3, none⟩ = some (.int .i64 z3) := HX2.out.box 3
  have bx4 : w2.cell? ⟨w.heap.size, 4, none⟩ = some (.slice a n c) := HX2.out.box 4
  have ry0 : w2.cell? ⟨w.heap.size + 1, 0, none⟩ = some (.int .i64 o) := HX2.out.res 0
  have ry1 : w2.cell? ⟨w.heap.size + 1, 1, none⟩ = some (.int .i64 u) := HX2.out.res 1
  have ry2 : w2.cell? ⟨w.heap.size + 1, 2, none⟩ = some (.int .i64 v) := HX2.out.res 2
  have ne0 : w2.heap.size ≠ w.heap.size := by have := HX2.out.size; omega
  have ne1 : w2.heap.size ≠ w.heap.size + 1 := by have := HX2.out.size; omega

  go_upto_region 5 with fail
  go_cut [6] (fun r wx => r = .bool V ∧ Hid (Both w wx #[.int .i64 z0, .int .i64 z1, .int .i64 z2, .int .i64 z3, .slice a n c] #[.int .i64 o, .int .i64 u, .int .i64 v]))
  case first =>
    go_region_held3 (fun W => W.cell? ⟨w.heap.size, 0, none⟩ = some (.int .i64 z0) ∧ W.cell? ⟨w.heap.size, 1, none⟩ = some (.int .i64 z1) ∧ W.cell? ⟨w.heap.size, 2, none⟩ = some (.int .i64 z2) ∧ W.cell? ⟨w.heap.size, 3, none⟩ = some (.int .i64 z3) ∧ W.cell? ⟨w.heap.size, 4, none⟩ = some (.slice a n c) ∧ W.cell? ⟨w.heap.size + 1, 0, none⟩ = some (.int .i64 o) ∧ W.cell? ⟨w.heap.size + 1, 1, none⟩ = some (.int .i64 u) ∧ W.cell? ⟨w.heap.size + 1, 2, none⟩ = some (.int .i64 v)) (go_keep) (first | (go_at_call 15; refine (HTA.out _ (by first | exact HX2.out.bel | exact HX2.out.bel.drew | exact Xb.bel | exact Xb.bel.drew)).mono ?_; rintro e wa ⟨ga, rfl, _, _, hPa, hba⟩; have Xa : Both w wa #[.int .i64 z0, .int .i64 z1, .int .i64 z2, .int .i64 z3, .slice a n c] #[.int .i64 o, .int .i64 u, .int .i64 v] := (by first | exact HX2.out.next hba | exact (HX2.out.next ((Below.refl _ _).drew)).next hba | exact Xb.next hba | exact (Xb.next ((Below.refl _ _).drew)).next hba); have bx0 : wa.cell? ⟨w.heap.size, 0, none⟩ = some (.int .i64 z0) := Xa.box 0; have bx1 : wa.cell? ⟨w.heap.size, 1, none⟩ = some (.int .i64 z1) := Xa.box 1; have bx2 : wa.cell? ⟨w.heap.size, 2, none⟩ = some (.int .i64 z2) := Xa.box 2; have bx3 : wa.cell? ⟨w.heap.size, 3, none⟩ = some (.int .i64 z3) := Xa.box 3; have bx4 : wa.cell? ⟨w.heap.size, 4, none⟩ = some (.slice a n c) := Xa.box 4; have ry0 : wa.cell? ⟨w.heap.size + 1, 0, none⟩ = some (.int .i64 o) := Xa.res 0; have ry1 : wa.cell? ⟨w.heap.size + 1, 1, none⟩ = some (.int .i64 u) := Xa.res 1; have ry2 : wa.cell? ⟨w.heap.size + 1, 2, none⟩ = some (.int .i64 v) := Xa.res 2; have ne0 : wa.heap.size ≠ w.heap.size := (by have := Xa.size; omega); have ne1 : wa.heap.size ≠ w.heap.size + 1 := (by have := Xa.size; omega)) | (go_at_call 16; refine (to_ins o u v _).mono ?_; rintro e wb ⟨rfl, hbb⟩; have Xb : Both w wb #[.int .i64 z0, .int .i64 z1, .int .i64 z2, .int .i64 z3, .slice a n c] #[.int .i64 o, .int .i64 u, .int .i64 v] := (by first | exact Xa.next hbb | exact (Xa.next ((Below.refl _ _).drew)).next hbb | exact HX2.out.next hbb | exact (HX2.out.next ((Below.refl _ _).drew)).next hbb); have bx0 : wb.cell? ⟨w.heap.size, 0, none⟩ = some (.int .i64 z0) := Xb.box 0; have bx1 : wb.cell? ⟨w.heap.size, 1, none⟩ = some (.int .i64 z1) := Xb.box 1; have bx2 : wb.cell? ⟨w.heap.size, 2, none⟩ = some (.int .i64 z2) := Xb.box 2; have bx3 : wb.cell? ⟨w.heap.size, 3, none⟩ = some (.int .i64 z3) := Xb.box 3; have bx4 : wb.cell? ⟨w.heap.size, 4, none⟩ = some (.slice a n c) := Xb.box 4; have ry0 : wb.cell? ⟨w.heap.size + 1, 0, none⟩ = some (.int .i64 o) := Xb.res 0; have ry1 : wb.cell? ⟨w.heap.size + 1, 1, none⟩ = some (.int .i64 u) := Xb.res 1; have ry2 : wb.cell? ⟨w.heap.size + 1, 2, none⟩ = some (.int .i64 v) := Xb.res 2; have ne0 : wb.heap.size ≠ w.heap.size := (by have := Xb.size; omega); have ne1 : wb.heap.size ≠ w.heap.size + 1 := (by have := Xb.size; omega)) | (go_at_call 14; refine (HSP.out ga _).mono ?_; rintro e wc ⟨rfl, hbc⟩; have Xc : Both w wc #[.int .i64 z0, .int .i64 z1, .int .i64 z2, .int .i64 z3, .slice a n c] #[.int .i64 o, .int .i64 u, .int .i64 v] := (by first | exact Xb.next hbc | exact (Xb.next ((Below.refl _ _).drew)).next hbc | exact Xa.next hbc | exact (Xa.next ((Below.refl _ _).drew)).next hbc); have bx0 : wc.cell? ⟨w.heap.size, 0, none⟩ = some (.int .i64 z0) := Xc.box 0; have bx1 : wc.cell? ⟨w.heap.size, 1, none⟩ = some (.int .i64 z1) := Xc.box 1; have bx2 : wc.cell? ⟨w.heap.size, 2, none⟩ = some (.int .i64 z2) := Xc.box 2; have bx3 : wc.cell? ⟨w.heap.size, 3, none⟩ = some (.int .i64 z3) := Xc.box 3; have bx4 : wc.cell? ⟨w.heap.size, 4, none⟩ = some (.slice a n c) := Xc.box 4; have ry0 : wc.cell? ⟨w.heap.size + 1, 0, none⟩ = some (.int .i64 o) := Xc.res 0; have ry1 : wc.cell? ⟨w.heap.size + 1, 1, none⟩ = some (.int .i64 u) := Xc.res 1; have ry2 : wc.cell? ⟨w.heap.size + 1, 2, none⟩ = some (.int .i64 v) := Xc.res 2; have ne0 : wc.heap.size ≠ w.heap.size := (by have := Xc.size; omega); have ne1 : wc.heap.size ≠ w.heap.size + 1 := (by have := Xc.size; omega)))
    all_goals go_wp2_with fail
    all_goals go_meet
    all_goals exact ⟨rfl, by first | exact Xc | exact Xc.next ((Below.refl _ _).drew)⟩
  case rest =>
    obtain ⟨rfl, HX3⟩ := hcut
    clear HX2 HSP ne0 ne1 bx0 bx1 bx2 bx3 bx4 ry0 ry1 ry2
    have bx0 : wc.cell? ⟨w.heap.size, 0, none⟩ = some (.int .i64 z0) := HX3.out.box 0
    have bx1 : wc.cell? ⟨w.heap.size, 1, none⟩ = some (.int .i64 z1) := HX3.out.box 1
    have bx2 : wc.cell? ⟨w.heap.size, 2, none⟩ = some (.int .i64 z2) := HX3.out.box 2
    have bx3 : wc.cell? ⟨w.heap.size, 3, none⟩ = some (.int .i64 z3) := HX3.out.box 3
    have bx4 : wc.cell? ⟨w.heap.size, 4, none⟩ = some (.slice a n c) := HX3.out.box 4
    go_wp2_with fail
    refine (HTA.out _ HX3.out.bel).mono ?_
    rintro e w4 ⟨g, rfl, _, _, hP, hb⟩
    have hal : Below w4.heap.size w4 (w4.alloc (.cells #[.int .i64 z0, .int .i64 z1, .int .i64 z2, .int .i64 z3, .slice (some ⟨g, 0, none⟩) n n] 36)) := (Below.refl _ _).alloc (Nat.le_refl _) _
    have hX5 := (HX3.out.next hb).next hal
    have hK5 := Blk.new w4 #[.int .i64 z0, .int .i64 z1, .int .i64 z2, .int .i64 z3, .slice (some ⟨g, 0, none⟩) n n] 36
    have hP5 : OwnR (w4.alloc (.cells #[.int .i64 z0, .int .i64 z1, .int .i64 z2, .int .i64 z3, .slice (some ⟨g, 0, none⟩) n n] 36)) (some ⟨g, 0, none⟩) n 3 (insF L) := hP.below hal
    clear hal hb hP HX3 bx0 bx1 bx2 bx3 bx4
    go_upto_region 7 with fail
    obtain ⟨w5, hw5⟩ : ∃ W, W = (w4.alloc (.cells #[.int .i64 z0, .int .i64 z1, .int .i64 z2, .int .i64 z3, .slice (some ⟨g, 0, none⟩) n n] 36)) := ⟨_, rfl⟩
    obtain ⟨X0, hX0⟩ : ∃ X, X = w4.heap.size := ⟨_, rfl⟩
    rw [← hw5] at hX5 hK5 hP5 ⊢
    rw [← hX0] at hK5 ⊢
    clear hw5 hX0
    have HX5 : Hid (Both w w5 #[.int .i64 z0, .int .i64 z1, .int .i64 z2, .int .i64 z3, .slice a n c] #[.int .i64 o, .int .i64 u, .int .i64 v]) := hX5
    have HK5 : Hid (Blk w5 X0 #[.int .i64 z0, .int .i64 z1, .int .i64 z2, .int .i64 z3, .slice (some ⟨g, 0, none⟩) n n]) := hK5
    have HP5 : Hid (OwnR w5 (some ⟨g, 0, none⟩) n 3 (insF L)) := hP5
    clear hX5 hK5 hP5
    have ry0 : w5.cell? ⟨w.heap.size + 1, 0, none⟩ = some (.int .i64 o) := HX5.out.res 0
    have ry1 : w5.cell? ⟨w.heap.size + 1, 1, none⟩ = some (.int .i64 u) := HX5.out.res 1
    have ry2 : w5.cell? ⟨w.heap.size + 1, 2, none⟩ = some (.int .i64 v) := HX5.out.res 2
    have xa0 : w5.cell? ⟨X0, 0, none⟩ = some (.int .i64 z0) := HK5.out.cell 0
    have xa1 : w5.cell? ⟨X0, 1, none⟩ = some (.int .i64 z1) := HK5.out.cell 1
    have xa2 : w5.cell? ⟨X0, 2, none⟩ = some (.int .i64 z2) := HK5.out.cell 2
    have xa3 : w5.cell? ⟨X0, 3, none⟩ = some (.int .i64 z3) := HK5.out.cell 3
    have xa4 : w5.cell? ⟨X0, 4, none⟩ = some (.slice (some ⟨g, 0, none⟩) n n) := HK5.out.cell 4
    have ne0 : w5.heap.size ≠ w.heap.size := by have := HX5.out.size; omega
    have ne1 : w5.heap.size ≠ w.heap.size + 1 := by have := HX5.out.size; omega
    have neX : w5.heap.size ≠ X0 := by have := HK5.out.lt; omega
    go_cut [8] (fun r wx => r = .bool V ∧ Hid (Both w wx #[.int .i64 z0, .int .i64 z1, .int .i64 z2, .int .i64 z3, .slice a n c] #[.int .i64 o, .int .i64 u, .int .i64 v]) ∧ Hid (Blk wx X0 #[.int .i64 z0, .int .i64 z1, .int .i64 z2, .int .i64 z3, .slice (some ⟨g, 0, none⟩) n n]) ∧ Hid (OwnR wx (some ⟨g, 0, none⟩) n 3 (insF L)))
    case first =>
      go_region_held3 (fun W => W.cell? ⟨X0, 0, none⟩ = some (.int .i64 z0) ∧ W.cell? ⟨X0, 1, none⟩ = some (.int .i64 z1) ∧ W.cell? ⟨X0, 2, none⟩ = some (.int .i64 z2) ∧ W.cell? ⟨X0, 3, none⟩ = some (.int .i64 z3) ∧ W.cell? ⟨X0, 4, none⟩ = some (.slice (some ⟨g, 0, none⟩) n n) ∧ W.cell? ⟨w.heap.size + 1, 0, none⟩ = some (.int .i64 o) ∧ W.cell? ⟨w.heap.size + 1, 1, none⟩ = some (.int .i64 u) ∧ W.cell? ⟨w.heap.size + 1, 2, none⟩ = some (.int .i64 v)) (go_keep) (first | (go_at_call 16; refine (to_ins o u v _).mono ?_; rintro e wb ⟨rfl, hbb⟩; have Xb : Both w wb #[.int .i64 z0, .int .i64 z1, .int .i64 z2, .int .i64 z3, .slice a n c] #[.int .i64 o, .int .i64 u, .int .i64 v] := (by first | exact HX5.out.next hbb | exact (HX5.out.next ((Below.refl _ _).drew)).next hbb); have Kb : Blk wb X0 #[.int .i64 z0, .int .i64 z1, .int .i64 z2, .int .i64 z3, .slice (some ⟨g, 0, none⟩) n n] := (by first | exact HK5.out.below hbb | exact (HK5.out.below ((Below.refl _ _).drew)).below hbb); have Pb : OwnR wb (some ⟨g, 0, none⟩) n 3 (insF L) := (by first | exact HP5.out.below hbb | exact (HP5.out.below ((Below.refl _ _).drew)).below hbb); have xa0 : wb.cell? ⟨X0, 0, none⟩ = some (.int .i64 z0) := Kb.cell 0; have xa1 : wb.cell? ⟨X0, 1, none⟩ = some (.int .i64 z1) := Kb.cell 1; have xa2 : wb.cell? ⟨X0, 2, none⟩ = some (.int .i64 z2) := Kb.cell 2; have xa3 : wb.cell? ⟨X0, 3, none⟩ = some (.int .i64 z3) := Kb.cell 3; have xa4 : wb.cell? ⟨X0, 4, none⟩ = some (.slice (some ⟨g, 0, none⟩) n n) := Kb.cell 4; have ry0 : wb.cell? ⟨w.heap.size + 1, 0, none⟩ = some (.int .i64 o) := Xb.res 0; have ry1 : wb.cell? ⟨w.heap.size + 1, 1, none⟩ = some (.int .i64 u) := Xb.res 1; have ry2 : wb.cell? ⟨w.heap.size + 1, 2, none⟩ = some (.int .i64 v) := Xb.res 2; have ne0 : wb.heap.size ≠ w.heap.size := (by have := Xb.size; omega); have ne1 : wb.heap.size ≠ w.heap.size + 1 := (by have := Xb.size; omega); have neX : wb.heap.size ≠ X0 := (by have := Kb.lt; omega)) | (go_at_call 17; refine (HIP.out g _ (by first | exact Xb.bel | exact Xb.bel.drew)).mono ?_; rintro e wc ⟨rfl, hbc⟩; have Xc : Both w wc #[.int .i64 z0, .int .i64 z1, .int .i64 z2, .int .i64 z3, .slice a n c] #[.int .i64 o, .int .i64 u, .int .i64 v] := (by first | exact Xb.next hbc | exact (Xb.next ((Below.refl _ _).drew)).next hbc); have Kc : Blk wc X0 #[.int .i64 z0, .int .i64 z1, .int .i64 z2, .int .i64 z3, .slice (some ⟨g, 0, none⟩) n n] := (by first | exact Kb.below hbc | exact (Kb.below ((Below.refl _ _).drew)).below hbc); have Pc : OwnR wc (some ⟨g, 0, none⟩) n 3 (insF L) := (by first | exact Pb.below hbc | exact (Pb.below ((Below.refl _ _).drew)).below hbc); have xa0 : wc.cell? ⟨X0, 0, none⟩ = some (.int .i64 z0) := Kc.cell 0; have xa1 : wc.cell? ⟨X0, 1, none⟩ = some (.int .i64 z1) := Kc.cell 1; have xa2 : wc.cell? ⟨X0, 2, none⟩ = some (.int .i64 z2) := Kc.cell 2; have xa3 : wc.cell? ⟨X0, 3, none⟩ = some (.int .i64 z3) := Kc.cell 3; have xa4 : wc.cell? ⟨X0, 4, none⟩ = some (.slice (some ⟨g, 0, none⟩) n n) := Kc.cell 4; have ry0 : wc.cell? ⟨w.heap.size + 1, 0, none⟩ = some (.int .i64 o) := Xc.res 0; have ry1 : wc.cell? ⟨w.heap.size + 1, 1, none⟩ = some (.int .i64 u) := Xc.res 1; have ry2 : wc.cell? ⟨w.heap.size + 1, 2, none⟩ = some (.int .i64 v) := Xc.res 2; have ne0 : wc.heap.size ≠ w.heap.size := (by have := Xc.size; omega); have ne1 : wc.heap.size ≠ w.heap.size + 1 := (by have := Xc.size; omega); have neX : wc.heap.size ≠ X0 := (by have := Kc.lt; omega)))
      all_goals go_wp2_with fail
      all_goals go_meet
      all_goals first
        | exact ⟨rfl, Xc, Kc, Pc⟩
        | exact ⟨rfl, Xc.next ((Below.refl _ _).drew), Kc.below ((Below.refl _ _).drew), Pc.below ((Below.refl _ _).drew)⟩
    case rest =>
      obtain ⟨rfl, HX6, HK6, HP6⟩ := hcut
      clear HX5 HK5 HP5 ne0 ne1 neX ry0 ry1 ry2 xa0 xa1 xa2 xa3 xa4
      have hvv : (V != V) = false := by cases V <;> rfl
      have bx0 : wc.cell? ⟨w.heap.size, 0, none⟩ = some (.int .i64 z0) := HX6.out.box 0
      have bx1 : wc.cell? ⟨w.heap.size, 1, none⟩ = some (.int .i64 z1) := HX6.out.box 1
      have bx2 : wc.cell? ⟨w.heap.size, 2, none⟩ = some (.int .i64 z2) := HX6.out.box 2
      have bx3 : wc.cell? ⟨w.heap.size, 3, none⟩ = some (.int .i64 z3) := HX6.out.box 3
      have bx4 : wc.cell? ⟨w.heap.size, 4, none⟩ = some (.slice a n c) := HX6.out.box 4
      have xa0 : wc.cell? ⟨X0, 0, none⟩ = some (.int .i64 z0) := HK6.out.cell 0
      have xa1 : wc.cell? ⟨X0, 1, none⟩ = some (.int .i64 z1) := HK6.out.cell 1
      have xa2 : wc.cell? ⟨X0, 2, none⟩ = some (.int .i64 z2) := HK6.out.cell 2
      have xa3 : wc.cell? ⟨X0, 3, none⟩ = some (.int .i64 z3) := HK6.out.cell 3
      have xa4 : wc.cell? ⟨X0, 4, none⟩ = some (.slice (some ⟨g, 0, none⟩) n n) := HK6.out.cell 4
      have ne0 : wc.heap.size ≠ w.heap.size := by have := HX6.out.size; omega
      have ne1 : wc.heap.size ≠ w.heap.size + 1 := by have := HX6.out.size; omega
      have neX : wc.heap.size ≠ X0 := by have := HK6.out.lt; omega
      go_upto_region 10 with fail
      go_region_held3 (fun W => W.cell? ⟨X0, 0, none⟩ = some (.int .i64 z0) ∧ W.cell? ⟨X0, 1, none⟩ = some (.int .i64 z1) ∧ W.cell? ⟨X0, 2, none⟩ = some (.int .i64 z2) ∧ W.cell? ⟨X0, 3, none⟩ = some (.int .i64 z3) ∧ W.cell? ⟨X0, 4, none⟩ = some (.slice (some ⟨g, 0, none⟩) n n) ∧ W.cell? ⟨w.heap.size, 0, none⟩ = some (.int .i64 z0) ∧ W.cell? ⟨w.heap.size, 1, none⟩ = some (.int .i64 z1) ∧ W.cell? ⟨w.heap.size, 2, none⟩ = some (.int .i64 z2) ∧ W.cell? ⟨w.heap.size, 3, none⟩ = some (.int .i64 z3) ∧ W.cell? ⟨w.heap.size, 4, none⟩ = some (.slice a n c)) (go_keep) (first | (go_at_call 15; refine (HTA.out _ (by first | exact HX6.out.bel.drew | exact HX6.out.bel)).mono ?_; rintro e wa ⟨ga, rfl, _, _, hPa, hba⟩; have Xa : Both w wa #[.int .i64 z0, .int .i64 z1, .int .i64 z2, .int .i64 z3, .slice a n c] #[.int .i64 o, .int .i64 u, .int .i64 v] := (by first | exact HX6.out.next hba | exact (HX6.out.next ((Below.refl _ _).drew)).next hba); have Ka : Blk wa X0 #[.int .i64 z0, .int .i64 z1, .int .i64 z2, .int .i64 z3, .slice (some ⟨g, 0, none⟩) n n] := (by first | exact HK6.out.below hba | exact (HK6.out.below ((Below.refl _ _).drew)).below hba); have Pa : Hid (OwnR wa (some ⟨g, 0, none⟩) n 3 (insF L)) := (by first | exact HP6.out.below hba | exact (HP6.out.below ((Below.refl _ _).drew)).below hba); have Qa : Hid (OwnR wa (some ⟨ga, 0, none⟩) n 3 (insF L)) := hPa; clear hPa; have bx0 : wa.cell? ⟨w.heap.size, 0, none⟩ = some (.int .i64 z0) := Xa.box 0; have bx1 : wa.cell? ⟨w.heap.size, 1, none⟩ = some (.int .i64 z1) := Xa.box 1; have bx2 : wa.cell? ⟨w.heap.size, 2, none⟩ = some (.int .i64 z2) := Xa.box 2; have bx3 : wa.cell? ⟨w.heap.size, 3, none⟩ = some (.int .i64 z3) := Xa.box 3; have bx4 : wa.cell? ⟨w.heap.size, 4, none⟩ = some (.slice a n c) := Xa.box 4; have xa0 : wa.cell? ⟨X0, 0, none⟩ = some (.int .i64 z0) := Ka.cell 0; have xa1 : wa.cell? ⟨X0, 1, none⟩ = some (.int .i64 z1) := Ka.cell 1; have xa2 : wa.cell? ⟨X0, 2, none⟩ = some (.int .i64 z2) := Ka.cell 2; have xa3 : wa.cell? ⟨X0, 3, none⟩ = some (.int .i64 z3) := Ka.cell 3; have xa4 : wa.cell? ⟨X0, 4, none⟩ = some (.slice (some ⟨g, 0, none⟩) n n) := Ka.cell 4; have ne0 : wa.heap.size ≠ w.heap.size := (by have := Xa.size; omega); have ne1 : wa.heap.size ≠ w.heap.size + 1 := (by have := Xa.size; omega); have neX : wa.heap.size ≠ X0 := (by have := Ka.lt; omega)) | (go_at_call 18; refine (HEQ.out g ga _ (by first | exact Pa.out | exact Pa.out.below ((Below.refl _ _).drew)) (by first | exact Qa.out | exact Qa.out.below ((Below.refl _ _).drew))).mono ?_; rintro e wb ⟨rfl, hbb⟩; have Xb : Both w wb #[.int .i64 z0, .int .i64 z1, .int .i64 z2, .int .i64 z3, .slice a n c] #[.int .i64 o, .int .i64 u, .int .i64 v] := (by first | exact Xa.next hbb | exact (Xa.next ((Below.refl _ _).drew)).next hbb); have Kb : Blk wb X0 #[.int .i64 z0, .int .i64 z1, .int .i64 z2, .int .i64 z3, .slice (some ⟨g, 0, none⟩) n n] := (by first | exact Ka.below hbb | exact (Ka.below ((Below.refl _ _).drew)).below hbb); have bx0 : wb.cell? ⟨w.heap.size, 0, none⟩ = some (.int .i64 z0) := Xb.box 0; have bx1 : wb.cell? ⟨w.heap.size, 1, none⟩ = some (.int .i64 z1) := Xb.box 1; have bx2 : wb.cell? ⟨w.heap.size, 2, none⟩ = some (.int .i64 z2) := Xb.box 2; have bx3 : wb.cell? ⟨w.heap.size, 3, none⟩ = some (.int .i64 z3) := Xb.box 3; have bx4 : wb.cell? ⟨w.heap.size, 4, none⟩ = some (.slice a n c) := Xb.box 4; have xa0 : wb.cell? ⟨X0, 0, none⟩ = some (.int .i64 z0) := Kb.cell 0; have xa1 : wb.cell? ⟨X0, 1, none⟩ = some (.int .i64 z1) := Kb.cell 1; have xa2 : wb.cell? ⟨X0, 2, none⟩ = some (.int .i64 z2) := Kb.cell 2; have xa3 : wb.cell? ⟨X0, 3, none⟩ = some (.int .i64 z3) := Kb.cell 3; have xa4 : wb.cell? ⟨X0, 4, none⟩ = some (.slice (some ⟨g, 0, none⟩) n n) := Kb.cell 4))
      all_goals
        have HBB : Hid (Below w.heap.size w wb) := Xb.bel
        go_wp2_with fail
        go_ret
        exact ⟨rfl, HBB.out⟩
end Go.Proofs.YtkhjmjlmbeealaaDoor
