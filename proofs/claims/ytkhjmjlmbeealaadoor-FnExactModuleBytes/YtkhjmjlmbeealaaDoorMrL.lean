/- The laws of ModuleRight and HeightsOf. -/
import Derived.Test.YtkhjmjlmbeealaaDoorMrS
import Derived.Test.YtkhjmjlmbeealaaDoorInsL
namespace Go.Proofs.YtkhjmjlmbeealaaDoor
open Go.RowKit
open Go.Proofs.YtkhjmjlmbeealaaDoor.Draw

theorem BxM.grownR {w W W' : World} {cs : Array Value} {row : Option Nat} (h : BxM w W cs) (hg : W.grownBy W' row) (hb : ∀ k, row = some k → w.heap.size < k) : BxM w W' cs :=
  ⟨fun j => (World.cell?_of_block (a := ⟨w.heap.size, j, none⟩) (hg.block w.heap.size h.lt (fun e => by have := hb w.heap.size e.symm; omega))).trans (h.cell j), Nat.lt_of_lt_of_le h.lt hg.size, h.bel.grown hg h.bel.size (fun k hk => by have := hb k hk; omega)⟩
theorem BxM.grown {w W W' : World} {cs : Array Value} {g : Nat} (h : BxM w W cs) (hg : W.grownBy W' (some g)) (h1 : w.heap.size ≠ g) (h2 : w.heap.size ≤ g) : BxM w W' cs := h.grownR hg (fun k e => by cases e; omega)
set_option maxRecDepth 100000 in
set_option maxHeartbeats 16000000 in
theorem mark_mod (z0 z1 z2 z3 : Int) (a : Option Addr) (n c : Nat) (F : Nat → Value) (hn : n ≤ 1048576) (k0 : Nat) (hk2 : k0 ≤ 549755813888) (w : World) (h : OwnR w a n 3 F) :
    Calls Tryd.prog 22 #[.agg #[.int .i64 z0, .int .i64 z1, .int .i64 z2, .int .i64 z3, .slice a n c], .int .i64 (k0 : Int)] w fun e w' => e = .returned (.int .i64 ((k0 + n * 3 : Nat) : Int)) ∧ OwnR w' a n 3 (mkI k0) ∧ w.grownBy w' (a.map Addr.block) := by
  have HO : Hid (OwnR w a n 3 F) := h
  have HX : Hid (BxM w (w.alloc (.cells #[.int .i64 z0, .int .i64 z1, .int .i64 z2, .int .i64 z3, .slice a n c] 36)) #[.int .i64 z0, .int .i64 z1, .int .i64 z2, .int .i64 z3, .slice a n c]) := BxM.new _ _ _
  clear h
  go_enter Tryd.func22, Tryd.ntmps22
  go_wp2_with fail
  refine (mark_inss a n c F hn k0 hk2 _ (HO.out.below HX.out.bel)).mono ?_
  rintro e w1 ⟨rfl, hO, hg⟩
  have HO1 : Hid (OwnR w1 a n 3 (mkI k0)) := hO
  have HG1 : Hid (w.grownBy w1 (a.map Addr.block)) := by
    have h0 : w.grownBy (w.alloc (.cells #[.int .i64 z0, .int .i64 z1, .int .i64 z2, .int .i64 z3, .slice a n c] 36)) (a.map Addr.block) := ⟨rfl, rfl, rfl, by simp, fun k hk _ => Below.heap_alloc _ _ _ hk⟩
    exact ⟨hg.os.trans h0.os, hg.tape.trans h0.tape, hg.output.trans h0.output, Nat.le_trans h0.size hg.size, fun k hk hne => (hg.block k (Nat.lt_of_lt_of_le hk h0.size) hne).trans (h0.block k hk hne)⟩
  clear hO hg
  go_wp2_with fail
  go_ret
  exact ⟨rfl, HO1.out, HG1.out⟩
set_option maxRecDepth 100000 in
set_option maxHeartbeats 16000000 in
theorem law_modRight (z0 z1 z2 z3 : Int) (a : Option Addr) (n c : Nat) (L : Nat → In) (hn : n ≤ maxLen) (w : World) (hF : FunW w) (hS : ShaW w) (hA : InsAt w a n L) :
    Calls Tryd.prog 7 #[.agg #[.int .i64 z0, .int .i64 z1, .int .i64 z2, .int .i64 z3, .slice a n c]] w fun e w' => e = .returned (.bool true) ∧ Below w.heap.size w w' := by
  have HA : Hid (InsAt w a n L) := hA
  have HF : Hid (FunW w) := hF
  have HS : Hid (ShaW w) := hS
  have HN : Hid (n ≤ maxLen) := hn
  have HX0 : Hid (BxM w (w.alloc (.cells #[.int .i64 z0, .int .i64 z1, .int .i64 z2, .int .i64 z3, .slice a n c] 29)) #[.int .i64 z0, .int .i64 z1, .int .i64 z2, .int .i64 z3, .slice a n c]) := BxM.new _ _ _
  clear hA hn hF hS
  go_enter Tryd.func7, Tryd.ntmps7
  have bx0 : (w.alloc (.cells #[.int .i64 z0, .int .i64 z1, .int .i64 z2, .int .i64 z3, .slice a n c] 29)).cell? ⟨w.heap.size, 0, none⟩ = some (.int .i64 z0) := HX0.out.cell 0
  have bx1 : (w.alloc (.cells #[.int .i64 z0, .int .i64 z1, .int .i64 z2, .int .i64 z3, .slice a n c] 29)).cell? ⟨w.heap.size, 1, none⟩ = some (.int .i64 z1) := HX0.out.cell 1
  have bx2 : (w.alloc (.cells #[.int .i64 z0, .int .i64 z1, .int .i64 z2, .int .i64 z3, .slice a n c] 29)).cell? ⟨w.heap.size, 2, none⟩ = some (.int .i64 z2) := HX0.out.cell 2
  have bx3 : (w.alloc (.cells #[.int .i64 z0, .int .i64 z1, .int .i64 z2, .int .i64 z3, .slice a n c] 29)).cell? ⟨w.heap.size, 3, none⟩ = some (.int .i64 z3) := HX0.out.cell 3
  have bx4 : (w.alloc (.cells #[.int .i64 z0, .int .i64 z1, .int .i64 z2, .int .i64 z3, .slice a n c] 29)).cell? ⟨w.heap.size, 4, none⟩ = some (.slice a n c) := HX0.out.cell 4
  go_wp2_with fail
  refine (sz_mod z0 z1 z2 z3 a n c HN.out 1048576 (by omega) _).mono ?_
  rintro e w2 ⟨he, hb⟩
  have HX2 : Hid (BxM w w2 #[.int .i64 z0, .int .i64 z1, .int .i64 z2, .int .i64 z3, .slice a n c]) := HX0.out.next hb
  clear hb HX0 bx0 bx1 bx2 bx3 bx4
  rcases he with rfl | ⟨q, rfl, hq, hnl⟩
  · have q1 : decide ((-1 : Int) < 0) = true := rfl
    have HB1 : Hid (Below w.heap.size w w2) := HX2.out.bel
    go_wp2_with fail
    go_ret
    exact ⟨rfl, HB1.out⟩
  have q1 : decide ((q : Int) < 0) = false := by simp
  have hnm : n ≤ 9223372036854775807 := by omega
  have HNM : Hid (n ≤ 1048576) := (by omega : n ≤ 1048576)
  have HTA : Hid (∀ W, Below w.heap.size w W → Calls Tryd.prog 15 #[.agg #[.int .i64 z0, .int .i64 z1, .int .i64 z2, .int .i64 z3, .slice a n c]] W fun e w' => ∃ g, e = .returned (.agg #[.int .i64 z0, .int .i64 z1, .int .i64 z2, .int .i64 z3, .slice (some ⟨g, 0, none⟩) n n]) ∧ W.heap.size ≤ g ∧ g < w'.heap.size ∧ OwnR w' (some ⟨g, 0, none⟩) n 3 (insF L) ∧ Below W.heap.size W w') := fun W hb => to_mod z0 z1 z2 z3 a n c L (by omega) W (HA.out.below hb)
  have HSP : Hid (∀ g W, InsAt W (some ⟨g, 0, none⟩) n L → Calls Tryd.prog 25 #[.agg #[.int .i64 z0, .int .i64 z1, .int .i64 z2, .int .i64 z3, .slice (some ⟨g, 0, none⟩) n n]] W (ModOut z0 z1 z2 z3 n L W)) := fun g W h => spec_modRight z0 z1 z2 z3 g n n (by omega) L W h
  have HIP : Hid (∀ g W, Below w.heap.size w W → InsAt W (some ⟨g, 0, none⟩) n L → Calls Tryd.prog 26 #[.agg #[.int .i64 z0, .int .i64 z1, .int .i64 z2, .int .i64 z3, .slice (some ⟨g, 0, none⟩) n n]] W (ModOut z0 z1 z2 z3 n L W)) := fun g W hb h => impl_modRight z0 z1 z2 z3 (some ⟨g, 0, none⟩) n n (by omega) L W (HF.out.below hb) (HS.out.below hb) h
  have HEQ : Hid (∀ g g' W, OwnR W (some ⟨g, 0, none⟩) n 3 (insF L) → OwnR W (some ⟨g', 0, none⟩) n 3 (insF L) → Calls Tryd.prog 18 #[.agg #[.int .i64 z0, .int .i64 z1, .int .i64 z2, .int .i64 z3, .slice (some ⟨g, 0, none⟩) n n], .agg #[.int .i64 z0, .int .i64 z1, .int .i64 z2, .int .i64 z3, .slice (some ⟨g', 0, none⟩) n n]] W fun e w' => e = .returned (.bool true) ∧ Below W.heap.size W w') := fun g g' W h h' => eq_mod z0 z1 z2 z3 (some ⟨g, 0, none⟩) (some ⟨g', 0, none⟩) n n n L (by omega) W h.inss h'.inss
  clear hq hnl
  have bx0 : w2.cell? ⟨w.heap.size, 0, none⟩ = some (.int .i64 z0) := HX2.out.cell 0
  have bx1 : w2.cell? ⟨w.heap.size, 1, none⟩ = some (.int .i64 z1) := HX2.out.cell 1
  have bx2 : w2.cell? ⟨w.heap.size, 2, none⟩ = some (.int .i64 z2) := HX2.out.cell 2
  have bx3 : w2.cell? ⟨w.heap.size, 3, none⟩ = some (.int .i64 z3) := HX2.out.cell 3
  have bx4 : w2.cell? ⟨w.heap.size, 4, none⟩ = some (.slice a n c) := HX2.out.cell 4
  go_wp2_with fail
  refine (HTA.out _ HX2.out.bel).mono ?_
  rintro e w3 ⟨g0, rfl, _, _, hP, hb⟩
  have HX3 : Hid (BxM w w3 #[.int .i64 z0, .int .i64 z1, .int .i64 z2, .int .i64 z3, .slice a n c]) := HX2.out.next hb
  have HP3 : Hid (InsAt w3 (some ⟨g0, 0, none⟩) n L) := hP.inss
  clear hP hb HX2 bx0 bx1 bx2 bx3 bx4
  go_wp2_with fail
  refine (HSP.out g0 _ HP3.out).mono ?_
  rintro e w4 ⟨b1, rfl, hb1, hbl⟩
  have HB1 : Hid (b1 = true ↔ ModP z0 z1 z2 z3 n L) := hb1
  have HX4 : Hid (BxM w w4 #[.int .i64 z0, .int .i64 z1, .int .i64 z2, .int .i64 z3, .slice a n c]) := HX3.out.next hbl
  clear HX3 HP3
  have bx0 : w4.cell? ⟨w.heap.size, 0, none⟩ = some (.int .i64 z0) := HX4.out.cell 0
  have bx1 : w4.cell? ⟨w.heap.size, 1, none⟩ = some (.int .i64 z1) := HX4.out.cell 1
  have bx2 : w4.cell? ⟨w.heap.size, 2, none⟩ = some (.int .i64 z2) := HX4.out.cell 2
  have bx3 : w4.cell? ⟨w.heap.size, 3, none⟩ = some (.int .i64 z3) := HX4.out.cell 3
  have bx4 : w4.cell? ⟨w.heap.size, 4, none⟩ = some (.slice a n c) := HX4.out.cell 4
  go_wp2_with fail
  refine (HTA.out _ HX4.out.bel).mono ?_
  rintro e w5 ⟨g, rfl, _, hgl, hP, hb⟩
  have hal : Below w5.heap.size w5 (w5.alloc (.cells #[.int .i64 z0, .int .i64 z1, .int .i64 z2, .int .i64 z3, .slice (some ⟨g, 0, none⟩) n n] 36)) := (Below.refl _ _).alloc (Nat.le_refl _) _
  have hX5 := (HX4.out.next hb).next hal
  have hK5 := Blk.new w5 #[.int .i64 z0, .int .i64 z1, .int .i64 z2, .int .i64 z3, .slice (some ⟨g, 0, none⟩) n n] 36
  have hP5 : OwnR (w5.alloc (.cells #[.int .i64 z0, .int .i64 z1, .int .i64 z2, .int .i64 z3, .slice (some ⟨g, 0, none⟩) n n] 36)) (some ⟨g, 0, none⟩) n 3 (insF L) := hP.below hal
  clear hal hb hP HX4 bx0 bx1 bx2 bx3 bx4
  go_upto_region 7 with fail
  obtain ⟨w6, hw6⟩ : ∃ W, W = (w5.alloc (.cells #[.int .i64 z0, .int .i64 z1, .int .i64 z2, .int .i64 z3, .slice (some ⟨g, 0, none⟩) n n] 36)) := ⟨_, rfl⟩
  obtain ⟨X0, hX0⟩ : ∃ X, X = w5.heap.size := ⟨_, rfl⟩
  rw [← hw6] at hX5 hK5 hP5 ⊢
  rw [← hX0] at hK5 ⊢
  clear hw6 hX0
  have HX6 : Hid (BxM w w6 #[.int .i64 z0, .int .i64 z1, .int .i64 z2, .int .i64 z3, .slice a n c]) := hX5
  have HK6 : Hid (Blk w6 X0 #[.int .i64 z0, .int .i64 z1, .int .i64 z2, .int .i64 z3, .slice (some ⟨g, 0, none⟩) n n]) := hK5
  have HP6 : Hid (OwnR w6 (some ⟨g, 0, none⟩) n 3 (insF L)) := hP5
  clear hX5 hK5 hP5
  have xa0 : w6.cell? ⟨X0, 0, none⟩ = some (.int .i64 z0) := HK6.out.cell 0
  have xa1 : w6.cell? ⟨X0, 1, none⟩ = some (.int .i64 z1) := HK6.out.cell 1
  have xa2 : w6.cell? ⟨X0, 2, none⟩ = some (.int .i64 z2) := HK6.out.cell 2
  have xa3 : w6.cell? ⟨X0, 3, none⟩ = some (.int .i64 z3) := HK6.out.cell 3
  have xa4 : w6.cell? ⟨X0, 4, none⟩ = some (.slice (some ⟨g, 0, none⟩) n n) := HK6.out.cell 4
  go_wp2_with fail
  refine (HIP.out g _ HX6.out.bel HP6.out.inss).mono ?_
  rintro e w7 ⟨b2, rfl, hb2, hbl2⟩
  have hbb : b2 = b1 := Bool.eq_iff_iff.2 (hb2.trans HB1.out.symm)
  subst hbb
  have hvv : (b2 != b2) = false := by cases b2 <;> rfl
  have HX7 : Hid (BxM w w7 #[.int .i64 z0, .int .i64 z1, .int .i64 z2, .int .i64 z3, .slice a n c]) := HX6.out.next hbl2
  have HK7 : Hid (Blk w7 X0 #[.int .i64 z0, .int .i64 z1, .int .i64 z2, .int .i64 z3, .slice (some ⟨g, 0, none⟩) n n]) := HK6.out.below hbl2
  have HP7 : Hid (OwnR w7 (some ⟨g, 0, none⟩) n 3 (insF L)) := HP6.out.below hbl2
  clear HX6 HK6 HP6 HB1 hb1 hb2 hbl hbl2 xa0 xa1 xa2 xa3 xa4
  have bx0 : w7.cell? ⟨w.heap.size, 0, none⟩ = some (.int .i64 z0) := HX7.out.cell 0
  have bx1 : w7.cell? ⟨w.heap.size, 1, none⟩ = some (.int .i64 z1) := HX7.out.cell 1
  have bx2 : w7.cell? ⟨w.heap.size, 2, none⟩ = some (.int .i64 z2) := HX7.out.cell 2
  have bx3 : w7.cell? ⟨w.heap.size, 3, none⟩ = some (.int .i64 z3) := HX7.out.cell 3
  have bx4 : w7.cell? ⟨w.heap.size, 4, none⟩ = some (.slice a n c) := HX7.out.cell 4
  have xa0 : w7.cell? ⟨X0, 0, none⟩ = some (.int .i64 z0) := HK7.out.cell 0
  have xa1 : w7.cell? ⟨X0, 1, none⟩ = some (.int .i64 z1) := HK7.out.cell 1
  have xa2 : w7.cell? ⟨X0, 2, none⟩ = some (.int .i64 z2) := HK7.out.cell 2
  have xa3 : w7.cell? ⟨X0, 3, none⟩ = some (.int .i64 z3) := HK7.out.cell 3
  have xa4 : w7.cell? ⟨X0, 4, none⟩ = some (.slice (some ⟨g, 0, none⟩) n n) := HK7.out.cell 4
  have ne0 : w7.heap.size ≠ w.heap.size := by have := HX7.out.lt; omega
  have neX : w7.heap.size ≠ X0 := by have := HK7.out.lt; omega
  go_upto_region 10 with fail
  go_cut [26] (fun r wx => r = .bool false ∧ Hid (BxM w wx #[.int .i64 z0, .int .i64 z1, .int .i64 z2, .int .i64 z3, .slice a n c]) ∧ Hid (Blk wx X0 #[.int .i64 z0, .int .i64 z1, .int .i64 z2, .int .i64 z3, .slice (some ⟨g, 0, none⟩) n n]) ∧ Hid (OwnR wx (some ⟨g, 0, none⟩) n 3 (insF L)) ∧ Hid (Below w7.heap.size w7 wx))
  case first =>
    go_region_held3 (fun W => W.cell? ⟨X0, 0, none⟩ = some (.int .i64 z0) ∧ W.cell? ⟨X0, 1, none⟩ = some (.int .i64 z1) ∧ W.cell? ⟨X0, 2, none⟩ = some (.int .i64 z2) ∧ W.cell? ⟨X0, 3, none⟩ = some (.int .i64 z3) ∧ W.cell? ⟨X0, 4, none⟩ = some (.slice (some ⟨g, 0, none⟩) n n) ∧ W.cell? ⟨w.heap.size, 0, none⟩ = some (.int .i64 z0) ∧ W.cell? ⟨w.heap.size, 1, none⟩ = some (.int .i64 z1) ∧ W.cell? ⟨w.heap.size, 2, none⟩ = some (.int .i64 z2) ∧ W.cell? ⟨w.heap.size, 3, none⟩ = some (.int .i64 z3) ∧ W.cell? ⟨w.heap.size, 4, none⟩ = some (.slice a n c)) (go_keep) (first | (go_at_call 15; refine (HTA.out _ (by first | exact HX7.out.bel.drew | exact HX7.out.bel)).mono ?_; rintro e wa ⟨ga, rfl, _, _, hPa, hba⟩; have Xa : BxM w wa #[.int .i64 z0, .int .i64 z1, .int .i64 z2, .int .i64 z3, .slice a n c] := (by first | exact HX7.out.next hba | exact (HX7.out.next ((Below.refl _ _).drew)).next hba); have Ka : Blk wa X0 #[.int .i64 z0, .int .i64 z1, .int .i64 z2, .int .i64 z3, .slice (some ⟨g, 0, none⟩) n n] := (by first | exact HK7.out.below hba | exact (HK7.out.below ((Below.refl _ _).drew)).below hba); have Pa : Hid (OwnR wa (some ⟨g, 0, none⟩) n 3 (insF L)) := (by first | exact HP7.out.below hba | exact (HP7.out.below ((Below.refl _ _).drew)).below hba); have Qa : Hid (OwnR wa (some ⟨ga, 0, none⟩) n 3 (insF L)) := hPa; have Ba : Hid (Below w7.heap.size w7 wa) := (by first | exact hba | exact ((Below.refl _ _).drew).trans hba); clear hPa; have bx0 : wa.cell? ⟨w.heap.size, 0, none⟩ = some (.int .i64 z0) := Xa.cell 0; have bx1 : wa.cell? ⟨w.heap.size, 1, none⟩ = some (.int .i64 z1) := Xa.cell 1; have bx2 : wa.cell? ⟨w.heap.size, 2, none⟩ = some (.int .i64 z2) := Xa.cell 2; have bx3 : wa.cell? ⟨w.heap.size, 3, none⟩ = some (.int .i64 z3) := Xa.cell 3; have bx4 : wa.cell? ⟨w.heap.size, 4, none⟩ = some (.slice a n c) := Xa.cell 4; have xa0 : wa.cell? ⟨X0, 0, none⟩ = some (.int .i64 z0) := Ka.cell 0; have xa1 : wa.cell? ⟨X0, 1, none⟩ = some (.int .i64 z1) := Ka.cell 1; have xa2 : wa.cell? ⟨X0, 2, none⟩ = some (.int .i64 z2) := Ka.cell 2; have xa3 : wa.cell? ⟨X0, 3, none⟩ = some (.int .i64 z3) := Ka.cell 3; have xa4 : wa.cell? ⟨X0, 4, none⟩ = some (.slice (some ⟨g, 0, none⟩) n n) := Ka.cell 4; have ne0 : wa.heap.size ≠ w.heap.size := (by have := Xa.lt; omega); have neX : wa.heap.size ≠ X0 := (by have := Ka.lt; omega)) | (go_at_call 18; refine (HEQ.out g ga _ (by first | exact Pa.out | exact Pa.out.below ((Below.refl _ _).drew)) (by first | exact Qa.out | exact Qa.out.below ((Below.refl _ _).drew))).mono ?_; rintro e wb ⟨rfl, hbb⟩; have Xb : BxM w wb #[.int .i64 z0, .int .i64 z1, .int .i64 z2, .int .i64 z3, .slice a n c] := (by first | exact Xa.next hbb | exact (Xa.next ((Below.refl _ _).drew)).next hbb); have Kb : Blk wb X0 #[.int .i64 z0, .int .i64 z1, .int .i64 z2, .int .i64 z3, .slice (some ⟨g, 0, none⟩) n n] := (by first | exact Ka.below hbb | exact (Ka.below ((Below.refl _ _).drew)).below hbb); have Pb : Hid (OwnR wb (some ⟨g, 0, none⟩) n 3 (insF L)) := (by first | exact Pa.out.below hbb | exact (Pa.out.below ((Below.refl _ _).drew)).below hbb); have Bb : Hid (Below w7.heap.size w7 wb) := (by first | exact Ba.out.trans (hbb.mono Ba.out.size) | exact Ba.out.drew.trans (hbb.mono (by have := Ba.out.size; simpa using this))); have bx0 : wb.cell? ⟨w.heap.size, 0, none⟩ = some (.int .i64 z0) := Xb.cell 0; have bx1 : wb.cell? ⟨w.heap.size, 1, none⟩ = some (.int .i64 z1) := Xb.cell 1; have bx2 : wb.cell? ⟨w.heap.size, 2, none⟩ = some (.int .i64 z2) := Xb.cell 2; have bx3 : wb.cell? ⟨w.heap.size, 3, none⟩ = some (.int .i64 z3) := Xb.cell 3; have bx4 : wb.cell? ⟨w.heap.size, 4, none⟩ = some (.slice a n c) := Xb.cell 4; have xa0 : wb.cell? ⟨X0, 0, none⟩ = some (.int .i64 z0) := Kb.cell 0; have xa1 : wb.cell? ⟨X0, 1, none⟩ = some (.int .i64 z1) := Kb.cell 1; have xa2 : wb.cell? ⟨X0, 2, none⟩ = some (.int .i64 z2) := Kb.cell 2; have xa3 : wb.cell? ⟨X0, 3, none⟩ = some (.int .i64 z3) := Kb.cell 3; have xa4 : wb.cell? ⟨X0, 4, none⟩ = some (.slice (some ⟨g, 0, none⟩) n n) := Kb.cell 4))
    all_goals go_wp2_with fail
    all_goals go_meet
    all_goals first
      | exact ⟨rfl, Xb, Kb, Pb, Bb⟩
      | exact ⟨rfl, Xb.next ((Below.refl _ _).drew), Kb.below ((Below.refl _ _).drew), Pb.out.below ((Below.refl _ _).drew), Bb.out.drew⟩
  case rest =>
    obtain ⟨rfl, HX8, HK8, HP8, HB8⟩ := hcut
    clear HX7 HK7 HP7 ne0 neX bx0 bx1 bx2 bx3 bx4 xa0 xa1 xa2 xa3 xa4
    have HBB : Hid (Below w.heap.size w wc) := HX8.out.bel
    go_wp2_with fail
    go_ret
    exact ⟨rfl, HBB.out⟩
set_option maxRecDepth 100000 in
set_option maxHeartbeats 16000000 in
theorem law_heightsOf (z0 z1 z2 z3 : Int) (a : Option Addr) (n c : Nat) (L : Nat → In) (hn : n ≤ maxLen) (w : World) (hF : FunW w) (hS : ShaW w) (hA : InsAt w a n L) :
    Calls Tryd.prog 6 #[.agg #[.int .i64 z0, .int .i64 z1, .int .i64 z2, .int .i64 z3, .slice a n c]] w fun e w' => e = .returned (.bool true) ∧ Below w.heap.size w w' := by
  have HA : Hid (InsAt w a n L) := hA
  have HF : Hid (FunW w) := hF
  have HS : Hid (ShaW w) := hS
  have HN : Hid (n ≤ maxLen) := hn
  have HX0 : Hid (BxM w (w.alloc (.cells #[.int .i64 z0, .int .i64 z1, .int .i64 z2, .int .i64 z3, .slice a n c] 29)) #[.int .i64 z0, .int .i64 z1, .int .i64 z2, .int .i64 z3, .slice a n c]) := BxM.new _ _ _
  clear hA hn hF hS
  go_enter Tryd.func6, Tryd.ntmps6
  have bx0 : (w.alloc (.cells #[.int .i64 z0, .int .i64 z1, .int .i64 z2, .int .i64 z3, .slice a n c] 29)).cell? ⟨w.heap.size, 0, none⟩ = some (.int .i64 z0) := HX0.out.cell 0
  have bx1 : (w.alloc (.cells #[.int .i64 z0, .int .i64 z1, .int .i64 z2, .int .i64 z3, .slice a n c] 29)).cell? ⟨w.heap.size, 1, none⟩ = some (.int .i64 z1) := HX0.out.cell 1
  have bx2 : (w.alloc (.cells #[.int .i64 z0, .int .i64 z1, .int .i64 z2, .int .i64 z3, .slice a n c] 29)).cell? ⟨w.heap.size, 2, none⟩ = some (.int .i64 z2) := HX0.out.cell 2
  have bx3 : (w.alloc (.cells #[.int .i64 z0, .int .i64 z1, .int .i64 z2, .int .i64 z3, .slice a n c] 29)).cell? ⟨w.heap.size, 3, none⟩ = some (.int .i64 z3) := HX0.out.cell 3
  have bx4 : (w.alloc (.cells #[.int .i64 z0, .int .i64 z1, .int .i64 z2, .int .i64 z3, .slice a n c] 29)).cell? ⟨w.heap.size, 4, none⟩ = some (.slice a n c) := HX0.out.cell 4
  go_wp2_with fail
  refine (sz_mod z0 z1 z2 z3 a n c HN.out 1048576 (by omega) _).mono ?_
  rintro e w2 ⟨he, hb⟩
  have HX2 : Hid (BxM w w2 #[.int .i64 z0, .int .i64 z1, .int .i64 z2, .int .i64 z3, .slice a n c]) := HX0.out.next hb
  clear hb HX0 bx0 bx1 bx2 bx3 bx4
  rcases he with rfl | ⟨q, rfl, hq, hnl⟩
  · have q1 : decide ((-1 : Int) < 0) = true := rfl
    have HB1 : Hid (Below w.heap.size w w2) := HX2.out.bel
    go_wp2_with fail
    go_ret
    exact ⟨rfl, HB1.out⟩
  have q1 : decide ((q : Int) < 0) = false := by simp
  have hnm : n ≤ 9223372036854775807 := by omega
  have HNM : Hid (n ≤ 1048576) := (by omega : n ≤ 1048576)
  have HTA : Hid (∀ W, Below w.heap.size w W → Calls Tryd.prog 15 #[.agg #[.int .i64 z0, .int .i64 z1, .int .i64 z2, .int .i64 z3, .slice a n c]] W fun e w' => ∃ g, e = .returned (.agg #[.int .i64 z0, .int .i64 z1, .int .i64 z2, .int .i64 z3, .slice (some ⟨g, 0, none⟩) n n]) ∧ W.heap.size ≤ g ∧ g < w'.heap.size ∧ OwnR w' (some ⟨g, 0, none⟩) n 3 (insF L) ∧ Below W.heap.size W w') := fun W hb => to_mod z0 z1 z2 z3 a n c L (by omega) W (HA.out.below hb)
  have HSP : Hid (∀ g W, InsAt W (some ⟨g, 0, none⟩) n L → Calls Tryd.prog 19 #[.agg #[.int .i64 z0, .int .i64 z1, .int .i64 z2, .int .i64 z3, .slice (some ⟨g, 0, none⟩) n n]] W (HgtOut z0 z1 z2 z3 n L W)) := fun g W h => spec_heightsOf z0 z1 z2 z3 g n n (by omega) L W h
  have HIP : Hid (∀ g W, Below w.heap.size w W → InsAt W (some ⟨g, 0, none⟩) n L → Calls Tryd.prog 20 #[.agg #[.int .i64 z0, .int .i64 z1, .int .i64 z2, .int .i64 z3, .slice (some ⟨g, 0, none⟩) n n]] W (HgtOut z0 z1 z2 z3 n L W)) := fun g W hb h => impl_heightsOf z0 z1 z2 z3 g n n (by omega) L W (HF.out.below hb) (HS.out.below hb) h
  have HEQ : Hid (∀ g g' W, OwnR W (some ⟨g, 0, none⟩) n 3 (insF L) → OwnR W (some ⟨g', 0, none⟩) n 3 (insF L) → Calls Tryd.prog 18 #[.agg #[.int .i64 z0, .int .i64 z1, .int .i64 z2, .int .i64 z3, .slice (some ⟨g, 0, none⟩) n n], .agg #[.int .i64 z0, .int .i64 z1, .int .i64 z2, .int .i64 z3, .slice (some ⟨g', 0, none⟩) n n]] W fun e w' => e = .returned (.bool true) ∧ Below W.heap.size W w') := fun g g' W h h' => eq_mod z0 z1 z2 z3 (some ⟨g, 0, none⟩) (some ⟨g', 0, none⟩) n n n L (by omega) W h.inss h'.inss
  clear hq hnl
  have bx0 : w2.cell? ⟨w.heap.size, 0, none⟩ = some (.int .i64 z0) := HX2.out.cell 0
  have bx1 : w2.cell? ⟨w.heap.size, 1, none⟩ = some (.int .i64 z1) := HX2.out.cell 1
  have bx2 : w2.cell? ⟨w.heap.size, 2, none⟩ = some (.int .i64 z2) := HX2.out.cell 2
  have bx3 : w2.cell? ⟨w.heap.size, 3, none⟩ = some (.int .i64 z3) := HX2.out.cell 3
  have bx4 : w2.cell? ⟨w.heap.size, 4, none⟩ = some (.slice a n c) := HX2.out.cell 4
  go_wp2_with fail
  refine (HTA.out _ HX2.out.bel).mono ?_
  rintro e w3 ⟨g0, rfl, _, _, hP, hb⟩
  have HX3 : Hid (BxM w w3 #[.int .i64 z0, .int .i64 z1, .int .i64 z2, .int .i64 z3, .slice a n c]) := HX2.out.next hb
  have HP3 : Hid (InsAt w3 (some ⟨g0, 0, none⟩) n L) := hP.inss
  clear hP hb HX2 bx0 bx1 bx2 bx3 bx4
  go_wp2_with fail
  refine (HSP.out g0 _ HP3.out).mono ?_
  rintro e w4 ⟨sa, m, sc, lvs, rfl, hO, hk, hbl, hq4⟩
  have hm : m ≤ 1048576 := by rcases hq4 with ⟨_, e, _⟩ | ⟨_, e⟩ <;> (have := HNM.out; omega)
  have HQ : Hid ((ModP z0 z1 z2 z3 n L ∧ m = n ∧ HgtIs L n lvs) ∨ (¬ ModP z0 z1 z2 z3 n L ∧ m = 0)) := hq4
  have HQ4 : Hid ((ModP z0 z1 z2 z3 n L ∧ m = n ∧ HgtIs L n lvs) ∨ (¬ ModP z0 z1 z2 z3 n L ∧ m = 0)) := hq4
  have HO4 : Hid (OwnR w4 sa m 1 (numF lvs)) := hO
  have HLs : Hid (∀ k, sa.map Addr.block = some k → k < w4.heap.size) := fun k e => (hk k e).2
  clear hO hk hq4
  have HX4 : Hid (BxM w w4 #[.int .i64 z0, .int .i64 z1, .int .i64 z2, .int .i64 z3, .slice a n c]) := HX3.out.next hbl
  have HW40 : Hid (w.heap.size < w4.heap.size) := HX4.out.lt
  clear HX3 HP3
  have bx0 : w4.cell? ⟨w.heap.size, 0, none⟩ = some (.int .i64 z0) := HX4.out.cell 0
  have bx1 : w4.cell? ⟨w.heap.size, 1, none⟩ = some (.int .i64 z1) := HX4.out.cell 1
  have bx2 : w4.cell? ⟨w.heap.size, 2, none⟩ = some (.int .i64 z2) := HX4.out.cell 2
  have bx3 : w4.cell? ⟨w.heap.size, 3, none⟩ = some (.int .i64 z3) := HX4.out.cell 3
  have bx4 : w4.cell? ⟨w.heap.size, 4, none⟩ = some (.slice a n c) := HX4.out.cell 4
  go_wp2_with fail
  refine (HTA.out _ HX4.out.bel).mono ?_
  rintro e w5 ⟨g, rfl, hge, hgl, hP, hb⟩
  have HO5 : Hid (OwnR w5 sa m 1 (numF lvs)) := HO4.out.below hb
  have hgs : w4.heap.size ≤ g ∧ w4.heap.size ≤ w5.heap.size := ⟨by omega, hb.size⟩
  have HGS : Hid (∀ k, sa.map Addr.block = some k → k ≠ g) := fun k e => by have := HLs.out k e; omega
  have hal : Below w5.heap.size w5 (w5.alloc (.cells #[.int .i64 z0, .int .i64 z1, .int .i64 z2, .int .i64 z3, .slice (some ⟨g, 0, none⟩) n n] 36)) := (Below.refl _ _).alloc (Nat.le_refl _) _
  have hX5 := (HX4.out.next hb).next hal
  have hK5 := Blk.new w5 #[.int .i64 z0, .int .i64 z1, .int .i64 z2, .int .i64 z3, .slice (some ⟨g, 0, none⟩) n n] 36
  have hP5 : OwnR (w5.alloc (.cells #[.int .i64 z0, .int .i64 z1, .int .i64 z2, .int .i64 z3, .slice (some ⟨g, 0, none⟩) n n] 36)) (some ⟨g, 0, none⟩) n 3 (insF L) := hP.below hal
  have hO5 : OwnR (w5.alloc (.cells #[.int .i64 z0, .int .i64 z1, .int .i64 z2, .int .i64 z3, .slice (some ⟨g, 0, none⟩) n n] 36)) sa m 1 (numF lvs) := HO5.out.below hal
  clear HO5 HO4
  clear hal hb hP HX4 bx0 bx1 bx2 bx3 bx4
  go_upto_region 7 with fail
  obtain ⟨w6, hw6⟩ : ∃ W, W = (w5.alloc (.cells #[.int .i64 z0, .int .i64 z1, .int .i64 z2, .int .i64 z3, .slice (some ⟨g, 0, none⟩) n n] 36)) := ⟨_, rfl⟩
  obtain ⟨X0, hX0⟩ : ∃ X, X = w5.heap.size := ⟨_, rfl⟩
  rw [← hw6] at hX5 hK5 hP5 hO5 ⊢
  rw [← hX0] at hK5 ⊢
  have HX0L : Hid (X0 < w6.heap.size) := by show _ < _; rw [hX0, hw6]; simp
  have HZ : Hid (w4.heap.size ≤ w6.heap.size ∧ g < w6.heap.size ∧ w4.heap.size ≤ g ∧ g < X0) := by show _ ∧ _; rw [hX0, hw6]; simp; omega
  have HW4 : Hid (w.heap.size < w4.heap.size) := HW40.out
  clear hw6 hX0
  have HX6 : Hid (BxM w w6 #[.int .i64 z0, .int .i64 z1, .int .i64 z2, .int .i64 z3, .slice a n c]) := hX5
  have HK6 : Hid (Blk w6 X0 #[.int .i64 z0, .int .i64 z1, .int .i64 z2, .int .i64 z3, .slice (some ⟨g, 0, none⟩) n n]) := hK5
  have HP6 : Hid (OwnR w6 (some ⟨g, 0, none⟩) n 3 (insF L)) := hP5
  have HO6 : Hid (OwnR w6 sa m 1 (numF lvs)) := hO5
  clear hO5
  clear hX5 hK5 hP5
  have xa0 : w6.cell? ⟨X0, 0, none⟩ = some (.int .i64 z0) := HK6.out.cell 0
  have xa1 : w6.cell? ⟨X0, 1, none⟩ = some (.int .i64 z1) := HK6.out.cell 1
  have xa2 : w6.cell? ⟨X0, 2, none⟩ = some (.int .i64 z2) := HK6.out.cell 2
  have xa3 : w6.cell? ⟨X0, 3, none⟩ = some (.int .i64 z3) := HK6.out.cell 3
  have xa4 : w6.cell? ⟨X0, 4, none⟩ = some (.slice (some ⟨g, 0, none⟩) n n) := HK6.out.cell 4
  go_wp2_with fail
  refine (HIP.out g _ HX6.out.bel HP6.out.inss).mono ?_
  rintro e w7 ⟨ga, m2, gk, lvi, rfl, hO7, hk7, hbl2, hq7⟩
  have hmm : m2 = m ∧ ∀ j, j < m → numF lvi j = numF lvs j := by
    rcases HQ4.out with ⟨h1, h2, h3⟩ | ⟨h1, h2⟩ <;> rcases hq7 with ⟨k1, k2, k3⟩ | ⟨k1, k2⟩
    · exact ⟨by omega, fun j hj => by unfold numF; rw [HgtIs.one h1.2.2 k3 h3 (by omega)]⟩
    · exact absurd h1 k1
    · exact absurd k1 h1
    · exact ⟨by omega, fun j hj => by omega⟩
  obtain ⟨rfl, hnf⟩ := hmm
  have HG7 : Hid (OwnR w7 ga m2 1 (numF lvs)) := by
    rcases hO7 with h | ⟨g9, h9, h⟩
    · exact Or.inl h
    · exact Or.inr ⟨g9, h9, h.congr (fun j hj => hnf j (by omega))⟩
  have HX7 : Hid (BxM w w7 #[.int .i64 z0, .int .i64 z1, .int .i64 z2, .int .i64 z3, .slice a n c]) := HX6.out.next hbl2
  have HK7 : Hid (Blk w7 X0 #[.int .i64 z0, .int .i64 z1, .int .i64 z2, .int .i64 z3, .slice (some ⟨g, 0, none⟩) n n]) := HK6.out.below hbl2
  have HP7 : Hid (OwnR w7 (some ⟨g, 0, none⟩) n 3 (insF L)) := HP6.out.below hbl2
  have HO7 : Hid (OwnR w7 sa m2 1 (numF lvs)) := HO6.out.below hbl2
  have HLg : Hid (∀ k, ga.map Addr.block = some k → w6.heap.size ≤ k ∧ k < w7.heap.size) := hk7
  have HL6 : Hid (w4.heap.size ≤ w6.heap.size ∧ g < w6.heap.size ∧ X0 < w6.heap.size) := ⟨by have := HZ.out; omega, by have := HZ.out; omega, HX0L.out⟩
  clear HX6 HK6 HP6 HO6 HQ4 hq7 hO7 hk7 hbl hnf xa0 xa1 xa2 xa3 xa4
  go_wp2_with fail
  refine (eq_ints ga sa m2 gk sc (numF lvs) lvs (fun j _ => rfl) hm _ HG7.out HO7.out).mono ?_
  rintro e w8 ⟨rfl, hb⟩
  have HX7 : Hid (BxM w w8 #[.int .i64 z0, .int .i64 z1, .int .i64 z2, .int .i64 z3, .slice a n c]) := HX7.out.next hb
  have HK7 : Hid (Blk w8 X0 #[.int .i64 z0, .int .i64 z1, .int .i64 z2, .int .i64 z3, .slice (some ⟨g, 0, none⟩) n n]) := HK7.out.below hb
  have HP7 : Hid (OwnR w8 (some ⟨g, 0, none⟩) n 3 (insF L)) := HP7.out.below hb
  have HO8 : Hid (OwnR w8 sa m2 1 (numF lvs)) := HO7.out.below hb
  have HG8 : Hid (OwnR w8 ga m2 1 (numF lvs)) := HG7.out.below hb
  have HS8 : Hid (w7.heap.size ≤ w8.heap.size) := hb.size
  clear hb HO7 HG7
  have bx0 : w8.cell? ⟨w.heap.size, 0, none⟩ = some (.int .i64 z0) := HX7.out.cell 0
  have bx1 : w8.cell? ⟨w.heap.size, 1, none⟩ = some (.int .i64 z1) := HX7.out.cell 1
  have bx2 : w8.cell? ⟨w.heap.size, 2, none⟩ = some (.int .i64 z2) := HX7.out.cell 2
  have bx3 : w8.cell? ⟨w.heap.size, 3, none⟩ = some (.int .i64 z3) := HX7.out.cell 3
  have bx4 : w8.cell? ⟨w.heap.size, 4, none⟩ = some (.slice a n c) := HX7.out.cell 4
  have xa0 : w8.cell? ⟨X0, 0, none⟩ = some (.int .i64 z0) := HK7.out.cell 0
  have xa1 : w8.cell? ⟨X0, 1, none⟩ = some (.int .i64 z1) := HK7.out.cell 1
  have xa2 : w8.cell? ⟨X0, 2, none⟩ = some (.int .i64 z2) := HK7.out.cell 2
  have xa3 : w8.cell? ⟨X0, 3, none⟩ = some (.int .i64 z3) := HK7.out.cell 3
  have xa4 : w8.cell? ⟨X0, 4, none⟩ = some (.slice (some ⟨g, 0, none⟩) n n) := HK7.out.cell 4
  have ne0 : w8.heap.size ≠ w.heap.size := by have := HX7.out.lt; omega
  have neX : w8.heap.size ≠ X0 := by have := HK7.out.lt; omega
  go_upto_region 10 with fail
  go_cut [31] (fun r wx => r = .bool false ∧ Hid (BxM w wx #[.int .i64 z0, .int .i64 z1, .int .i64 z2, .int .i64 z3, .slice a n c]) ∧ Hid (Blk wx X0 #[.int .i64 z0, .int .i64 z1, .int .i64 z2, .int .i64 z3, .slice (some ⟨g, 0, none⟩) n n]) ∧ Hid (OwnR wx (some ⟨g, 0, none⟩) n 3 (insF L)) ∧ Hid (Below w8.heap.size w8 wx))
  case first =>
    go_region_held3 (fun W => W.cell? ⟨X0, 0, none⟩ = some (.int .i64 z0) ∧ W.cell? ⟨X0, 1, none⟩ = some (.int .i64 z1) ∧ W.cell? ⟨X0, 2, none⟩ = some (.int .i64 z2) ∧ W.cell? ⟨X0, 3, none⟩ = some (.int .i64 z3) ∧ W.cell? ⟨X0, 4, none⟩ = some (.slice (some ⟨g, 0, none⟩) n n) ∧ W.cell? ⟨w.heap.size, 0, none⟩ = some (.int .i64 z0) ∧ W.cell? ⟨w.heap.size, 1, none⟩ = some (.int .i64 z1) ∧ W.cell? ⟨w.heap.size, 2, none⟩ = some (.int .i64 z2) ∧ W.cell? ⟨w.heap.size, 3, none⟩ = some (.int .i64 z3) ∧ W.cell? ⟨w.heap.size, 4, none⟩ = some (.slice a n c)) (go_keep) (first | (go_at_call 15; refine (HTA.out _ (by first | exact HX7.out.bel.drew | exact HX7.out.bel)).mono ?_; rintro e wa ⟨ga, rfl, _, _, hPa, hba⟩; have Xa : BxM w wa #[.int .i64 z0, .int .i64 z1, .int .i64 z2, .int .i64 z3, .slice a n c] := (by first | exact HX7.out.next hba | exact (HX7.out.next ((Below.refl _ _).drew)).next hba); have Ka : Blk wa X0 #[.int .i64 z0, .int .i64 z1, .int .i64 z2, .int .i64 z3, .slice (some ⟨g, 0, none⟩) n n] := (by first | exact HK7.out.below hba | exact (HK7.out.below ((Below.refl _ _).drew)).below hba); have Pa : Hid (OwnR wa (some ⟨g, 0, none⟩) n 3 (insF L)) := (by first | exact HP7.out.below hba | exact (HP7.out.below ((Below.refl _ _).drew)).below hba); have Qa : Hid (OwnR wa (some ⟨ga, 0, none⟩) n 3 (insF L)) := hPa; have Ba : Hid (Below w8.heap.size w8 wa) := (by first | exact hba | exact ((Below.refl _ _).drew).trans hba); clear hPa; have bx0 : wa.cell? ⟨w.heap.size, 0, none⟩ = some (.int .i64 z0) := Xa.cell 0; have bx1 : wa.cell? ⟨w.heap.size, 1, none⟩ = some (.int .i64 z1) := Xa.cell 1; have bx2 : wa.cell? ⟨w.heap.size, 2, none⟩ = some (.int .i64 z2) := Xa.cell 2; have bx3 : wa.cell? ⟨w.heap.size, 3, none⟩ = some (.int .i64 z3) := Xa.cell 3; have bx4 : wa.cell? ⟨w.heap.size, 4, none⟩ = some (.slice a n c) := Xa.cell 4; have xa0 : wa.cell? ⟨X0, 0, none⟩ = some (.int .i64 z0) := Ka.cell 0; have xa1 : wa.cell? ⟨X0, 1, none⟩ = some (.int .i64 z1) := Ka.cell 1; have xa2 : wa.cell? ⟨X0, 2, none⟩ = some (.int .i64 z2) := Ka.cell 2; have xa3 : wa.cell? ⟨X0, 3, none⟩ = some (.int .i64 z3) := Ka.cell 3; have xa4 : wa.cell? ⟨X0, 4, none⟩ = some (.slice (some ⟨g, 0, none⟩) n n) := Ka.cell 4; have ne0 : wa.heap.size ≠ w.heap.size := (by have := Xa.lt; omega); have neX : wa.heap.size ≠ X0 := (by have := Ka.lt; omega)) | (go_at_call 18; refine (HEQ.out g ga _ (by first | exact Pa.out | exact Pa.out.below ((Below.refl _ _).drew)) (by first | exact Qa.out | exact Qa.out.below ((Below.refl _ _).drew))).mono ?_; rintro e wb ⟨rfl, hbb⟩; have Xb : BxM w wb #[.int .i64 z0, .int .i64 z1, .int .i64 z2, .int .i64 z3, .slice a n c] := (by first | exact Xa.next hbb | exact (Xa.next ((Below.refl _ _).drew)).next hbb); have Kb : Blk wb X0 #[.int .i64 z0, .int .i64 z1, .int .i64 z2, .int .i64 z3, .slice (some ⟨g, 0, none⟩) n n] := (by first | exact Ka.below hbb | exact (Ka.below ((Below.refl _ _).drew)).below hbb); have Pb : Hid (OwnR wb (some ⟨g, 0, none⟩) n 3 (insF L)) := (by first | exact Pa.out.below hbb | exact (Pa.out.below ((Below.refl _ _).drew)).below hbb); have Bb : Hid (Below w8.heap.size w8 wb) := (by first | exact Ba.out.trans (hbb.mono Ba.out.size) | exact Ba.out.drew.trans (hbb.mono (by have := Ba.out.size; simpa using this))); have bx0 : wb.cell? ⟨w.heap.size, 0, none⟩ = some (.int .i64 z0) := Xb.cell 0; have bx1 : wb.cell? ⟨w.heap.size, 1, none⟩ = some (.int .i64 z1) := Xb.cell 1; have bx2 : wb.cell? ⟨w.heap.size, 2, none⟩ = some (.int .i64 z2) := Xb.cell 2; have bx3 : wb.cell? ⟨w.heap.size, 3, none⟩ = some (.int .i64 z3) := Xb.cell 3; have bx4 : wb.cell? ⟨w.heap.size, 4, none⟩ = some (.slice a n c) := Xb.cell 4; have xa0 : wb.cell? ⟨X0, 0, none⟩ = some (.int .i64 z0) := Kb.cell 0; have xa1 : wb.cell? ⟨X0, 1, none⟩ = some (.int .i64 z1) := Kb.cell 1; have xa2 : wb.cell? ⟨X0, 2, none⟩ = some (.int .i64 z2) := Kb.cell 2; have xa3 : wb.cell? ⟨X0, 3, none⟩ = some (.int .i64 z3) := Kb.cell 3; have xa4 : wb.cell? ⟨X0, 4, none⟩ = some (.slice (some ⟨g, 0, none⟩) n n) := Kb.cell 4))
    all_goals go_wp2_with fail
    all_goals go_meet
    all_goals first
      | exact ⟨rfl, Xb, Kb, Pb, Bb⟩
      | exact ⟨rfl, Xb.next ((Below.refl _ _).drew), Kb.below ((Below.refl _ _).drew), Pb.out.below ((Below.refl _ _).drew), Bb.out.drew⟩
  case rest =>
    obtain ⟨rfl, HX8, HK8, HP8, HB8⟩ := hcut
    clear HX7 HK7 HP7 ne0 neX bx0 bx1 bx2 bx3 bx4 xa0 xa1 xa2 xa3 xa4
    have HS9 : Hid (w8.heap.size ≤ wc.heap.size) := HB8.out.size
    have HO9 : Hid (OwnR wc sa m2 1 (numF lvs)) := HO8.out.below HB8.out
    have HG9 : Hid (OwnR wc ga m2 1 (numF lvs)) := HG8.out.below HB8.out
    clear HO8 HG8 HB8
    have xa0 : wc.cell? ⟨X0, 0, none⟩ = some (.int .i64 z0) := HK8.out.cell 0
    have xa1 : wc.cell? ⟨X0, 1, none⟩ = some (.int .i64 z1) := HK8.out.cell 1
    have xa2 : wc.cell? ⟨X0, 2, none⟩ = some (.int .i64 z2) := HK8.out.cell 2
    have xa3 : wc.cell? ⟨X0, 3, none⟩ = some (.int .i64 z3) := HK8.out.cell 3
    have xa4 : wc.cell? ⟨X0, 4, none⟩ = some (.slice (some ⟨g, 0, none⟩) n n) := HK8.out.cell 4
    go_wp2_with fail
    refine (mark_mod z0 z1 z2 z3 (some ⟨g, 0, none⟩) n n (insF L) HNM.out 1 (by omega) _ HP8.out).mono ?_
    rintro e w10 ⟨rfl, _, hg⟩
    have hgX : X0 ≠ g ∧ w.heap.size ≠ g ∧ w.heap.size ≤ g := ⟨by have := HZ.out; omega, by have := HZ.out; have := HW4.out; omega, by have := HZ.out; have := HW4.out; omega⟩
    have HX9 : Hid (BxM w w10 #[.int .i64 z0, .int .i64 z1, .int .i64 z2, .int .i64 z3, .slice a n c]) := HX8.out.grown hg hgX.2.1 hgX.2.2
    have HO10 : Hid (OwnR w10 sa m2 1 (numF lvs)) := HO9.out.grown hg (fun k e e' => by simp at e'; exact HGS.out k e e')
    have HG10 : Hid (OwnR w10 ga m2 1 (numF lvs)) := HG9.out.grown hg (fun k e e' => by simp at e'; have := HLg.out k e; have := HL6.out; omega)
    have HS10 : Hid (wc.heap.size ≤ w10.heap.size) := hg.size
    clear hg HO9 HG9 HX8 HK8 HP8 hgX xa0 xa1 xa2 xa3 xa4
    have qk : decide (((1 + n * 3 : Nat) : Int) < 0) = false := by simp; omega
    have qk' : decide ((1 : Int) + (n : Int) * 3 < 0) = false := by simp; omega
    go_wp2_with fail
    refine (eq_ints ga sa m2 gk sc (numF lvs) lvs (fun j _ => rfl) hm _ HG10.out HO10.out).mono ?_
    rintro e w11 ⟨rfl, hb⟩
    have HX11 : Hid (BxM w w11 #[.int .i64 z0, .int .i64 z1, .int .i64 z2, .int .i64 z3, .slice a n c]) := HX9.out.next hb
    have HO11 : Hid (OwnR w11 sa m2 1 (numF lvs)) := HO10.out.below hb
    have HG11 : Hid (OwnR w11 ga m2 1 (numF lvs)) := HG10.out.below hb
    clear hb HX9 HO10 HG10
    go_wp2_with fail
    refine (mark_ints ga m2 gk (numF lvs) hm 1 (by omega) _ HG11.out).mono ?_
    rintro e w12 ⟨rfl, hO, hg⟩
    have HX12 : Hid (BxM w w12 #[.int .i64 z0, .int .i64 z1, .int .i64 z2, .int .i64 z3, .slice a n c]) := HX11.out.grownR hg (fun k e => by have := HLg.out k e; have := HL6.out; have := HW4.out; omega)
    have HO12 : Hid (OwnR w12 sa m2 1 (numF lvs)) := HO11.out.grown hg (fun k e e' => by have := HLs.out k e; have := HLg.out k e'.symm; have := HL6.out; omega)
    have HG12 : Hid (OwnR w12 ga m2 1 (mkI 1)) := hO
    clear hO hg HX11 HO11 HG11
    go_wp2_with fail
    refine (held_ints ga m2 gk hm 1 (by omega) _ HG12.out).mono ?_
    rintro e w13 ⟨rfl, hb⟩
    have HX13 : Hid (BxM w w13 #[.int .i64 z0, .int .i64 z1, .int .i64 z2, .int .i64 z3, .slice a n c]) := HX12.out.next hb
    have HO13 : Hid (OwnR w13 sa m2 1 (numF lvs)) := HO12.out.below hb
    have HG13 : Hid (OwnR w13 ga m2 1 (mkI 1)) := HG12.out.below hb
    clear hb HX12 HO12 HG12
    have qc : decide (((1 + m2 : Nat) : Int) < 0) = false := by simp; omega
    have qc' : decide ((1 : Int) + (m2 : Int) < 0) = false := by simp; omega
    have qq : ∀ z : Int, (z != z) = false := fun z => by simp
    have bx0 : w13.cell? ⟨w.heap.size, 0, none⟩ = some (.int .i64 z0) := HX13.out.cell 0
    have bx1 : w13.cell? ⟨w.heap.size, 1, none⟩ = some (.int .i64 z1) := HX13.out.cell 1
    have bx2 : w13.cell? ⟨w.heap.size, 2, none⟩ = some (.int .i64 z2) := HX13.out.cell 2
    have bx3 : w13.cell? ⟨w.heap.size, 3, none⟩ = some (.int .i64 z3) := HX13.out.cell 3
    have bx4 : w13.cell? ⟨w.heap.size, 4, none⟩ = some (.slice a n c) := HX13.out.cell 4
    go_wp2_with fail
    refine (HTA.out _ HX13.out.bel).mono ?_
    rintro e w14 ⟨g5, rfl, _, _, hP5, hb⟩
    have HX14 : Hid (BxM w w14 #[.int .i64 z0, .int .i64 z1, .int .i64 z2, .int .i64 z3, .slice a n c]) := HX13.out.next hb
    have HP14 : Hid (InsAt w14 (some ⟨g5, 0, none⟩) n L) := hP5.inss
    have HO14 : Hid (OwnR w14 sa m2 1 (numF lvs)) := HO13.out.below hb
    have HG14 : Hid (OwnR w14 ga m2 1 (mkI 1)) := HG13.out.below hb
    clear hb hP5 HX13 HO13 HG13 bx0 bx1 bx2 bx3 bx4
    go_wp2_with fail
    refine (HIP.out g5 _ HX14.out.bel HP14.out).mono ?_
    rintro e w15 ⟨ha, m3, hk3, lv3, rfl, hO3, _, hb, hq3⟩
    have hmm3 : m3 = m2 ∧ ∀ j, j < m2 → numF lv3 j = numF lvs j := by
      rcases HQ.out with ⟨h1, h2, h3⟩ | ⟨h1, h2⟩ <;> rcases hq3 with ⟨k1, k2, k3⟩ | ⟨k1, k2⟩
      · exact ⟨by omega, fun j hj => by unfold numF; rw [HgtIs.one h1.2.2 k3 h3 (by omega)]⟩
      · exact absurd h1 k1
      · exact absurd k1 h1
      · exact ⟨by omega, fun j hj => by omega⟩
    obtain ⟨rfl, hnf3⟩ := hmm3
    have HH15 : Hid (OwnR w15 ha m3 1 (numF lvs)) := by
      rcases hO3 with h | ⟨g9, h9, h⟩
      · exact Or.inl h
      · exact Or.inr ⟨g9, h9, h.congr (fun j hj => hnf3 j (by omega))⟩
    have HX15 : Hid (BxM w w15 #[.int .i64 z0, .int .i64 z1, .int .i64 z2, .int .i64 z3, .slice a n c]) := HX14.out.next hb
    have HO15 : Hid (OwnR w15 sa m3 1 (numF lvs)) := HO14.out.below hb
    have HG15 : Hid (OwnR w15 ga m3 1 (mkI 1)) := HG14.out.below hb
    clear hb HX14 HO14 HG14 HP14 hO3 hnf3 hq3
    go_wp2_with fail
    refine (eq_ints ha sa m3 hk3 sc (numF lvs) lvs (fun j _ => rfl) hm _ HH15.out HO15.out).mono ?_
    rintro e w16 ⟨rfl, hb⟩
    have HX16 : Hid (BxM w w16 #[.int .i64 z0, .int .i64 z1, .int .i64 z2, .int .i64 z3, .slice a n c]) := HX15.out.next hb
    have HG16 : Hid (OwnR w16 ga m3 1 (mkI 1)) := HG15.out.below hb
    clear hb HX15 HO15 HG15 HH15
    go_wp2_with fail
    refine (held_ints ga m3 gk hm 1 (by omega) _ HG16.out).mono ?_
    rintro e w17 ⟨rfl, hb⟩
    have HB17 : Hid (Below w.heap.size w w17) := HX16.out.bel.trans (hb.mono HX16.out.bel.size)
    clear hb HX16 HG16
    go_wp2_with fail
    go_ret
    exact ⟨rfl, HB17.out⟩
end Go.Proofs.YtkhjmjlmbeealaaDoor
