/- The law of ModuleBytes. -/
import Derived.Test.YtkhjmjlmbeealaaDoorMbM
namespace Go.Proofs.YtkhjmjlmbeealaaDoor
open Go.RowKit
open Go.Proofs.YtkhjmjlmbeealaaDoor.Draw

set_option maxRecDepth 100000 in
set_option maxHeartbeats 16000000 in
theorem law_modBytes (z0 z1 z2 z3 : Int) (a : Option Addr) (n c : Nat) (L : Nat → In) (hn : n ≤ maxLen) (w : World) (hF : FunW w) (hS : ShaW w) (hA : InsAt w a n L) :
    Calls Tryd.prog 8 #[.agg #[.int .i64 z0, .int .i64 z1, .int .i64 z2, .int .i64 z3, .slice a n c]] w fun e w' => e = .returned (.bool true) ∧ Below w.heap.size w w' := by
  have HA : Hid (InsAt w a n L) := hA
  have HF : Hid (FunW w) := hF
  have HS : Hid (ShaW w) := hS
  have HN : Hid (n ≤ maxLen) := hn
  have HX0 : Hid (BxM w (w.alloc (.cells #[.int .i64 z0, .int .i64 z1, .int .i64 z2, .int .i64 z3, .slice a n c] 29)) #[.int .i64 z0, .int .i64 z1, .int .i64 z2, .int .i64 z3, .slice a n c]) := BxM.new _ _ _
  clear hA hn hF hS
  go_enter Tryd.func8, Tryd.ntmps8
  have bx0 : (w.alloc (.cells #[.int .i64 z0, .int .i64 z1, .int .i64 z2, .int .i64 z3, .slice a n c] 29)).cell? ⟨w.heap.size, 0, none⟩ = some (.int .i64 z0) := HX0.out.cell 0
  have bx1 : (w.alloc (.cells #[.int .i64 z0, .int .i64 z1, .int .i64 z2, .int .i64 z3, .slice a n c] 29)).cell? ⟨w.heap.size, 1, none⟩ = some (.int .i64 z1) := HX0.out.cell 1
  have bx2 : (w.alloc (.cells #[.int .i64 z0, .int .i64 z1, .int .i64 z2, .int .i64 z3, .slice a n c] 29)).cell? ⟨w.heap.size, 2, none⟩ = some (.int .i64 z2) := HX0.out.cell 2
  have bx3 : (w.alloc (.cells #[.int .i64 z0, .int .i64 z1, .int .i64 z2, .int .i64 z3, .slice a n c] 29)).cell? ⟨w.heap.size, 3, none⟩ = some (.int .i64 z3) := HX0.out.cell 3
  have bx4 : (w.alloc (.cells #[.int .i64 z0, .int .i64 z1, .int .i64 z2, .int .i64 z3, .slice a n c] 29)).cell? ⟨w.heap.size, 4, none⟩ = some (.slice a n c) := HX0.out.cell 4
  go_wp2_with fail
  refine (sz_mod z0 z1 z2 z3 a n c HN.out 1048576 (by omega) _).mono ?_
  rintro e w2 ⟨he, hb⟩
  have HX2 : Hid (BxM w w2 #[.int .i64 z0, .int .i64 z1, .int .i64 z2, .int .i64 z3, .slice a n c]) := HX0.out.next hb
  clear hb HX0 bx0 bx1 bx2 bx3 bx4
  rcases he with rfl | ⟨q, rfl, hq, hnl⟩
  · have q1 : decide ((-1 : Int) < 0) = true := rfl
    have HB1 : Hid (Below w.heap.size w w2) := HX2.out.bel
    go_wp2_with fail
    go_ret
    exact ⟨rfl, HB1.out⟩
  have q1 : decide ((q : Int) < 0) = false := by simp
  have hnm : n ≤ 9223372036854775807 := by omega
  have HNM : Hid (n ≤ 1048576) := (by omega : n ≤ 1048576)
  have HTA : Hid (∀ W, Below w.heap.size w W → Calls Tryd.prog 15 #[.agg #[.int .i64 z0, .int .i64 z1, .int .i64 z2, .int .i64 z3, .slice a n c]] W fun e w' => ∃ g, e = .returned (.agg #[.int .i64 z0, .int .i64 z1, .int .i64 z2, .int .i64 z3, .slice (some ⟨g, 0, none⟩) n n]) ∧ W.heap.size ≤ g ∧ g < w'.heap.size ∧ OwnR w' (some ⟨g, 0, none⟩) n 3 (insF L) ∧ Below W.heap.size W w') := fun W hb => to_mod z0 z1 z2 z3 a n c L (by omega) W (HA.out.below hb)
  have HSP : Hid (∀ g W, InsAt W (some ⟨g, 0, none⟩) n L → Calls Tryd.prog 27 #[.agg #[.int .i64 z0, .int .i64 z1, .int .i64 z2, .int .i64 z3, .slice (some ⟨g, 0, none⟩) n n]] W (BytOut z0 z1 z2 z3 n L W)) := fun g W h => spec_modBytes z0 z1 z2 z3 g n n (by omega) L W h
  have HIP : Hid (∀ g W, Below w.heap.size w W → InsAt W (some ⟨g, 0, none⟩) n L → Calls Tryd.prog 28 #[.agg #[.int .i64 z0, .int .i64 z1, .int .i64 z2, .int .i64 z3, .slice (some ⟨g, 0, none⟩) n n]] W (BytOut z0 z1 z2 z3 n L W)) := fun g W hb h => impl_modBytes z0 z1 z2 z3 g n n (by omega) L W (HF.out.below hb) (HS.out.below hb) h
  have HEQ : Hid (∀ g g' W, OwnR W (some ⟨g, 0, none⟩) n 3 (insF L) → OwnR W (some ⟨g', 0, none⟩) n 3 (insF L) → Calls Tryd.prog 18 #[.agg #[.int .i64 z0, .int .i64 z1, .int .i64 z2, .int .i64 z3, .slice (some ⟨g, 0, none⟩) n n], .agg #[.int .i64 z0, .int .i64 z1, .int .i64 z2, .int .i64 z3, .slice (some ⟨g', 0, none⟩) n n]] W fun e w' => e = .returned (.bool true) ∧ Below W.heap.size W w') := fun g g' W h h' => eq_mod z0 z1 z2 z3 (some ⟨g, 0, none⟩) (some ⟨g', 0, none⟩) n n n L (by omega) W h.inss h'.inss
  clear hq hnl
  have bx0 : w2.cell? ⟨w.heap.size, 0, none⟩ = some (.int .i64 z0) := HX2.out.cell 0
  have bx1 : w2.cell? ⟨w.heap.size, 1, none⟩ = some (.int .i64 z1) := HX2.out.cell 1
  have bx2 : w2.cell? ⟨w.heap.size, 2, none⟩ = some (.int .i64 z2) := HX2.out.cell 2
  have bx3 : w2.cell? ⟨w.heap.size, 3, none⟩ = some (.int .i64 z3) := HX2.out.cell 3
  have bx4 : w2.cell? ⟨w.heap.size, 4, none⟩ = some (.slice a n c) := HX2.out.cell 4
  go_wp2_with fail
  refine (HTA.out _ HX2.out.bel).mono ?_
  rintro e w3 ⟨g0, rfl, _, _, hP, hb⟩
  have HX3 : Hid (BxM w w3 #[.int .i64 z0, .int .i64 z1, .int .i64 z2, .int .i64 z3, .slice a n c]) := HX2.out.next hb
  have HP3 : Hid (InsAt w3 (some ⟨g0, 0, none⟩) n L) := hP.inss
  clear hP hb HX2 bx0 bx1 bx2 bx3 bx4
  go_wp2_with fail
  refine (HSP.out g0 _ HP3.out).mono ?_
  rintro e w4 ⟨s1, rfl, hs1, hbl⟩
  have HB1 : Hid ((ModP z0 z1 z2 z3 n L ∧ s1 = ⟨(modL z0 z1 z2 z3 n L).toArray⟩) ∨ (¬ ModP z0 z1 z2 z3 n L ∧ s1 = ⟨#[]⟩)) := hs1
  clear hs1
  have HX4 : Hid (BxM w w4 #[.int .i64 z0, .int .i64 z1, .int .i64 z2, .int .i64 z3, .slice a n c]) := HX3.out.next hbl
  clear HX3 HP3
  have bx0 : w4.cell? ⟨w.heap.size, 0, none⟩ = some (.int .i64 z0) := HX4.out.cell 0
  have bx1 : w4.cell? ⟨w.heap.size, 1, none⟩ = some (.int .i64 z1) := HX4.out.cell 1
  have bx2 : w4.cell? ⟨w.heap.size, 2, none⟩ = some (.int .i64 z2) := HX4.out.cell 2
  have bx3 : w4.cell? ⟨w.heap.size, 3, none⟩ = some (.int .i64 z3) := HX4.out.cell 3
  have bx4 : w4.cell? ⟨w.heap.size, 4, none⟩ = some (.slice a n c) := HX4.out.cell 4
  go_wp2_with fail
  refine (HTA.out _ HX4.out.bel).mono ?_
  rintro e w5 ⟨g, rfl, _, hgl, hP, hb⟩
  have hal : Below w5.heap.size w5 (w5.alloc (.cells #[.int .i64 z0, .int .i64 z1, .int .i64 z2, .int .i64 z3, .slice (some ⟨g, 0, none⟩) n n] 36)) := (Below.refl _ _).alloc (Nat.le_refl _) _
  have hX5 := (HX4.out.next hb).next hal
  have hK5 := Blk.new w5 #[.int .i64 z0, .int .i64 z1, .int .i64 z2, .int .i64 z3, .slice (some ⟨g, 0, none⟩) n n] 36
  have hP5 : OwnR (w5.alloc (.cells #[.int .i64 z0, .int .i64 z1, .int .i64 z2, .int .i64 z3, .slice (some ⟨g, 0, none⟩) n n] 36)) (some ⟨g, 0, none⟩) n 3 (insF L) := hP.below hal
  clear hal hb hP HX4 bx0 bx1 bx2 bx3 bx4
  go_upto_region 7 with fail
  obtain ⟨w6, hw6⟩ : ∃ W, W = (w5.alloc (.cells #[.int .i64 z0, .int .i64 z1, .int .i64 z2, .int .i64 z3, .slice (some ⟨g, 0, none⟩) n n] 36)) := ⟨_, rfl⟩
  obtain ⟨X0, hX0⟩ : ∃ X, X = w5.heap.size := ⟨_, rfl⟩
  rw [← hw6] at hX5 hK5 hP5 ⊢
  rw [← hX0] at hK5 ⊢
  clear hw6 hX0
  have HX6 : Hid (BxM w w6 #[.int .i64 z0, .int .i64 z1, .int .i64 z2, .int .i64 z3, .slice a n c]) := hX5
  have HK6 : Hid (Blk w6 X0 #[.int .i64 z0, .int .i64 z1, .int .i64 z2, .int .i64 z3, .slice (some ⟨g, 0, none⟩) n n]) := hK5
  have HP6 : Hid (OwnR w6 (some ⟨g, 0, none⟩) n 3 (insF L)) := hP5
  clear hX5 hK5 hP5
  have xa0 : w6.cell? ⟨X0, 0, none⟩ = some (.int .i64 z0) := HK6.out.cell 0
  have xa1 : w6.cell? ⟨X0, 1, none⟩ = some (.int .i64 z1) := HK6.out.cell 1
  have xa2 : w6.cell? ⟨X0, 2, none⟩ = some (.int .i64 z2) := HK6.out.cell 2
  have xa3 : w6.cell? ⟨X0, 3, none⟩ = some (.int .i64 z3) := HK6.out.cell 3
  have xa4 : w6.cell? ⟨X0, 4, none⟩ = some (.slice (some ⟨g, 0, none⟩) n n) := HK6.out.cell 4
  go_wp2_with fail
  refine (HIP.out g _ HX6.out.bel HP6.out.inss).mono ?_
  rintro e w7 ⟨s2, rfl, hs2, hbl2⟩
  have hbb : s2 = s1 := by
    rcases HB1.out with ⟨p, q⟩ | ⟨p, q⟩ <;> rcases hs2 with ⟨p', q'⟩ | ⟨p', q'⟩
    · rw [q, q']
    · exact absurd p p'
    · exact absurd p' p
    · rw [q, q']
  subst hbb
  have hvv : ∀ x : List UInt8, (x != x) = false := fun x => by simp
  have hvd : decide (s2 = s2) = true := by simp
  have HX7 : Hid (BxM w w7 #[.int .i64 z0, .int .i64 z1, .int .i64 z2, .int .i64 z3, .slice a n c]) := HX6.out.next hbl2
  have HK7 : Hid (Blk w7 X0 #[.int .i64 z0, .int .i64 z1, .int .i64 z2, .int .i64 z3, .slice (some ⟨g, 0, none⟩) n n]) := HK6.out.below hbl2
  have HP7 : Hid (OwnR w7 (some ⟨g, 0, none⟩) n 3 (insF L)) := HP6.out.below hbl2
  clear HX6 HK6 HP6 HB1 hs2 hbl hbl2 xa0 xa1 xa2 xa3 xa4
  have bx0 : w7.cell? ⟨w.heap.size, 0, none⟩ = some (.int .i64 z0) := HX7.out.cell 0
  have bx1 : w7.cell? ⟨w.heap.size, 1, none⟩ = some (.int .i64 z1) := HX7.out.cell 1
  have bx2 : w7.cell? ⟨w.heap.size, 2, none⟩ = some (.int .i64 z2) := HX7.out.cell 2
  have bx3 : w7.cell? ⟨w.heap.size, 3, none⟩ = some (.int .i64 z3) := HX7.out.cell 3
  have bx4 : w7.cell? ⟨w.heap.size, 4, none⟩ = some (.slice a n c) := HX7.out.cell 4
  have xa0 : w7.cell? ⟨X0, 0, none⟩ = some (.int .i64 z0) := HK7.out.cell 0
  have xa1 : w7.cell? ⟨X0, 1, none⟩ = some (.int .i64 z1) := HK7.out.cell 1
  have xa2 : w7.cell? ⟨X0, 2, none⟩ = some (.int .i64 z2) := HK7.out.cell 2
  have xa3 : w7.cell? ⟨X0, 3, none⟩ = some (.int .i64 z3) := HK7.out.cell 3
  have xa4 : w7.cell? ⟨X0, 4, none⟩ = some (.slice (some ⟨g, 0, none⟩) n n) := HK7.out.cell 4
  have ne0 : w7.heap.size ≠ w.heap.size := by have := HX7.out.lt; omega
  have neX : w7.heap.size ≠ X0 := by have := HK7.out.lt; omega
  go_upto_region 10 with fail
  go_cut [26] (fun r wx => r = .bool false ∧ Hid (BxM w wx #[.int .i64 z0, .int .i64 z1, .int .i64 z2, .int .i64 z3, .slice a n c]) ∧ Hid (Blk wx X0 #[.int .i64 z0, .int .i64 z1, .int .i64 z2, .int .i64 z3, .slice (some ⟨g, 0, none⟩) n n]) ∧ Hid (OwnR wx (some ⟨g, 0, none⟩) n 3 (insF L)) ∧ Hid (Below w7.heap.size w7 wx))
  case first =>
    go_region_held3 (fun W => W.cell? ⟨X0, 0, none⟩ = some (.int .i64 z0) ∧ W.cell? ⟨X0, 1, none⟩ = some (.int .i64 z1) ∧ W.cell? ⟨X0, 2, none⟩ = some (.int .i64 z2) ∧ W.cell? ⟨X0, 3, none⟩ = some (.int .i64 z3) ∧ W.cell? ⟨X0, 4, none⟩ = some (.slice (some ⟨g, 0, none⟩) n n) ∧ W.cell? ⟨w.heap.size, 0, none⟩ = some (.int .i64 z0) ∧ W.cell? ⟨w.heap.size, 1, none⟩ = some (.int .i64 z1) ∧ W.cell? ⟨w.heap.size, 2, none⟩ = some (.int .i64 z2) ∧ W.cell? ⟨w.heap.size, 3, none⟩ = some (.int .i64 z3) ∧ W.cell? ⟨w.heap.size, 4, none⟩ = some (.slice a n c)) (go_keep) (first | (go_at_call 15; refine (HTA.out _ (by first | exact HX7.out.bel.drew | exact HX7.out.bel)).mono ?_; rintro e wa ⟨ga, rfl, _, _, hPa, hba⟩; have Xa : BxM w wa #[.int .i64 z0, .int .i64 z1, .int .i64 z2, .int .i64 z3, .slice a n c] := (by first | exact HX7.out.next hba | exact (HX7.out.next ((Below.refl _ _).drew)).next hba); have Ka : Blk wa X0 #[.int .i64 z0, .int .i64 z1, .int .i64 z2, .int .i64 z3, .slice (some ⟨g, 0, none⟩) n n] := (by first | exact HK7.out.below hba | exact (HK7.out.below ((Below.refl _ _).drew)).below hba); have Pa : Hid (OwnR wa (some ⟨g, 0, none⟩) n 3 (insF L)) := (by first | exact HP7.out.below hba | exact (HP7.out.below ((Below.refl _ _).drew)).below hba); have Qa : Hid (OwnR wa (some ⟨ga, 0, none⟩) n 3 (insF L)) := hPa; have Ba : Hid (Below w7.heap.size w7 wa) := (by first | exact hba | exact ((Below.refl _ _).drew).trans hba); clear hPa; have bx0 : wa.cell? ⟨w.heap.size, 0, none⟩ = some (.int .i64 z0) := Xa.cell 0; have bx1 : wa.cell? ⟨w.heap.size, 1, none⟩ = some (.int .i64 z1) := Xa.cell 1; have bx2 : wa.cell? ⟨w.heap.size, 2, none⟩ = some (.int .i64 z2) := Xa.cell 2; have bx3 : wa.cell? ⟨w.heap.size, 3, none⟩ = some (.int .i64 z3) := Xa.cell 3; have bx4 : wa.cell? ⟨w.heap.size, 4, none⟩ = some (.slice a n c) := Xa.cell 4; have xa0 : wa.cell? ⟨X0, 0, none⟩ = some (.int .i64 z0) := Ka.cell 0; have xa1 : wa.cell? ⟨X0, 1, none⟩ = some (.int .i64 z1) := Ka.cell 1; have xa2 : wa.cell? ⟨X0, 2, none⟩ = some (.int .i64 z2) := Ka.cell 2; have xa3 : wa.cell? ⟨X0, 3, none⟩ = some (.int .i64 z3) := Ka.cell 3; have xa4 : wa.cell? ⟨X0, 4, none⟩ = some (.slice (some ⟨g, 0, none⟩) n n) := Ka.cell 4; have ne0 : wa.heap.size ≠ w.heap.size := (by have := Xa.lt; omega); have neX : wa.heap.size ≠ X0 := (by have := Ka.lt; omega)) | (go_at_call 18; refine (HEQ.out g ga _ (by first | exact Pa.out | exact Pa.out.below ((Below.refl _ _).drew)) (by first | exact Qa.out | exact Qa.out.below ((Below.refl _ _).drew))).mono ?_; rintro e wb ⟨rfl, hbb⟩; have Xb : BxM w wb #[.int .i64 z0, .int .i64 z1, .int .i64 z2, .int .i64 z3, .slice a n c] := (by first | exact Xa.next hbb | exact (Xa.next ((Below.refl _ _).drew)).next hbb); have Kb : Blk wb X0 #[.int .i64 z0, .int .i64 z1, .int .i64 z2, .int .i64 z3, .slice (some ⟨g, 0, none⟩) n n] := (by first | exact Ka.below hbb | exact (Ka.below ((Below.refl _ _).drew)).below hbb); have Pb : Hid (OwnR wb (some ⟨g, 0, none⟩) n 3 (insF L)) := (by first | exact Pa.out.below hbb | exact (Pa.out.below ((Below.refl _ _).drew)).below hbb); have Bb : Hid (Below w7.heap.size w7 wb) := (by first | exact Ba.out.trans (hbb.mono Ba.out.size) | exact Ba.out.drew.trans (hbb.mono (by have := Ba.out.size; simpa using this))); have bx0 : wb.cell? ⟨w.heap.size, 0, none⟩ = some (.int .i64 z0) := Xb.cell 0; have bx1 : wb.cell? ⟨w.heap.size, 1, none⟩ = some (.int .i64 z1) := Xb.cell 1; have bx2 : wb.cell? ⟨w.heap.size, 2, none⟩ = some (.int .i64 z2) := Xb.cell 2; have bx3 : wb.cell? ⟨w.heap.size, 3, none⟩ = some (.int .i64 z3) := Xb.cell 3; have bx4 : wb.cell? ⟨w.heap.size, 4, none⟩ = some (.slice a n c) := Xb.cell 4; have xa0 : wb.cell? ⟨X0, 0, none⟩ = some (.int .i64 z0) := Kb.cell 0; have xa1 : wb.cell? ⟨X0, 1, none⟩ = some (.int .i64 z1) := Kb.cell 1; have xa2 : wb.cell? ⟨X0, 2, none⟩ = some (.int .i64 z2) := Kb.cell 2; have xa3 : wb.cell? ⟨X0, 3, none⟩ = some (.int .i64 z3) := Kb.cell 3; have xa4 : wb.cell? ⟨X0, 4, none⟩ = some (.slice (some ⟨g, 0, none⟩) n n) := Kb.cell 4))
    all_goals go_wp2_with fail
    all_goals go_meet
    all_goals first
      | exact ⟨rfl, Xb, Kb, Pb, Bb⟩
      | exact ⟨rfl, Xb.next ((Below.refl _ _).drew), Kb.below ((Below.refl _ _).drew), Pb.out.below ((Below.refl _ _).drew), Bb.out.drew⟩
  case rest =>
    obtain ⟨rfl, HX8, HK8, HP8, HB8⟩ := hcut
    clear HX7 HK7 HP7 ne0 neX bx0 bx1 bx2 bx3 bx4 xa0 xa1 xa2 xa3 xa4
    have HBB : Hid (Below w.heap.size w wc) := HX8.out.bel
    go_wp2_with fail
    go_ret
    exact ⟨rfl, HBB.out⟩
end Go.Proofs.YtkhjmjlmbeealaaDoor
