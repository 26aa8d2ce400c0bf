/- Legs copied, held against each other and marked: what the laws' helpers do. -/
import Derived.Test.YthjanamnkhggfaaLegs
namespace Go.Proofs.Ythjanamnkhggfaa
open Go.RowKit


set_option maxRecDepth 100000 in
set_option maxHeartbeats 4000000 in
theorem to_leg (x0 x1 x2 x3 : ByteArray) (x4 : Int) (w : World) :
    Calls Try.prog 32 #[.agg #[.string x0, .string x1, .string x2, .string x3, .int .i64 x4]] w fun e w' => e = .returned (.agg #[.string x0, .string x1, .string x2, .string x3, .int .i64 x4]) ∧ Below w.heap.size w w' := by
  go_enter Try.func32, Try.ntmps32
  go_wp2_with fail
  refine (to_spot x0 x1 _).mono ?_
  rintro e w1 ⟨rfl, hb1⟩
  have T1 := (three_new w #[.string x0, .string x1, .string x2, .string x3, .int .i64 x4] #[.string ⟨#[]⟩, .string ⟨#[]⟩, .string ⟨#[]⟩, .string ⟨#[]⟩, .int .i64 0] #[.string ⟨#[]⟩, .string ⟨#[]⟩, .string ⟨#[]⟩, .string ⟨#[]⟩, .int .i64 0] 68 70 70).next hb1
  have b2 := T1.box 2
  have b3 := T1.box 3
  have o0 := T1.out 0
  have o1 := T1.out 1
  have of := T1.ofr
  simp at b2 b3 o0 o1
  have HT : Hid (Three w ((w1.setCell ⟨w.heap.size + 1 + 1, 0, none⟩ (.string x0)).setCell ⟨w.heap.size + 1 + 1, 1, none⟩ (.string x1)) #[.string x0, .string x1, .string x2, .string x3, .int .i64 x4] #[.string ⟨#[]⟩, .string ⟨#[]⟩, .string ⟨#[]⟩, .string ⟨#[]⟩, .int .i64 0] #[.string x0, .string x1, .string ⟨#[]⟩, .string ⟨#[]⟩, .int .i64 0]) := (T1.set 0 (by simp) (.string x0)).set 1 (by simp) (.string x1)
  clear hb1 T1
  go_wp2_with fail
  refine (to_spot x2 x3 _).mono ?_
  rintro e w2 ⟨rfl, hb2⟩
  have T2 := HT.out.next hb2
  have c4 := T2.box 4
  have p0 := T2.out 0
  have p1 := T2.out 1
  have p2 := T2.out 2
  have p3 := T2.out 3
  have p4 := T2.out 4
  have pf := T2.ofr
  have r0 := T2.res 0
  have r1 := T2.res 1
  have r2 := T2.res 2
  have r3 := T2.res 3
  have r4 := T2.res 4
  have rf := T2.rfr
  simp at c4 p0 p1 p2 p3 p4 r0 r1 r2 r3 r4
  have HB : Hid (Below w.heap.size w w2) := T2.bel
  clear hb2 T2 HT b2 b3 o0 o1 of
  go_wp2_with fail
  refine bodyPost_ret (v := .agg #[.string x0, .string x1, .string x2, .string x3, .int .i64 x4]) ?_ rfl ⟨rfl, ?_⟩
  · simp [results, Try.results32, go_sem, r0, r1, r2, r3, r4]
  · have a1 : w.heap.size ≤ w.heap.size + 1 := by omega
    have a2 : w.heap.size ≤ w.heap.size + 1 + 1 := by omega
    exact (((((((((HB.out.setCell a2 _).setCell a2 _).setCell a2 _).setCell a1 _).setCell a1 _).setCell a1 _).setCell a1 _).setCell a1 _))
theorem infoLeg : (Try.prog.info? 70).map (fun i => (i.zero, i.size, i.bytes)) = some (some (.agg #[.string ⟨#[]⟩, .string ⟨#[]⟩, .string ⟨#[]⟩, .string ⟨#[]⟩, .int .i64 0]), 5, 72) := by kernel_rfl
set_option maxRecDepth 100000 in
set_option maxHeartbeats 4000000 in
theorem to_legs (a : Option Addr) (n cap : Nat) (L : Nat → Lg) (hn : n ≤ 1048576) (w : World) (h : LegsAt w a n L) :
    Calls Try.prog 13 #[.slice a n cap] w fun e w' => ∃ g, e = .returned (.slice (some ⟨g, 0, none⟩) n n) ∧ w.heap.size ≤ g ∧ Own w' g (n * 5) (legF L) ∧ Below w.heap.size w w' := by
  obtain ⟨i0, hi, hz0, hz1, hz2⟩ := info_parts infoLeg
  have HL : Hid (LegsAt w a n L) := h
  clear h
  go_enter Try.func13, Try.ntmps13
  go_wp2_with (refine wpList_make_full _ rfl (.tmp 6) (.tmp 6) 37 rfl w.heap.size 70 i0 (.agg #[.string ⟨#[]⟩, .string ⟨#[]⟩, .string ⟨#[]⟩, .string ⟨#[]⟩, .int .i64 0]) 5 Try.underlying37 hi hz0 hz1 .i64 .i64 _ _ n rfl rfl rfl rfl (by rw [hz2]; omega) (by unfold maxLen; omega) (Nat.le_refl _) ?_)
  intro w1 hown hg1
  have HB1 : Hid (Below w.heap.size w w1) := (Below.refl _ _).grown hg1 (Nat.le_refl _) (fun k hk => by cases hk)
  obtain ⟨F0, hO⟩ := own_some hown
  have HO : Hid (Own w1 w.heap.size (n * 5) F0) := hO
  clear hO
  clear hg1 hown
  go_wp2_with fail
  go_loopw [4] (fun i wr => ∃ k : Nat, i = .int .i64 (k : Int) ∧ k ≤ n ∧ Hid (Own wr w.heap.size (n * 5) (fun j => if j < k * 5 then legF L j else F0 j)) ∧ Hid (Below w.heap.size w wr)) (fun i _ => n - (intOf i).toNat)
  case atStart => exact ⟨0, rfl, by omega, HO.out.congr (fun j _ => by rw [if_neg (by omega)]), HB1⟩
  case round =>
    obtain ⟨k, rfl, hk, HOr, HB⟩ := hrel
    by_cases hkn : k < n
    · have p0 : decide (k < n) = true := by simpa using hkn
      have p1 : decide ((k : Int) < (n : Int)) = true := by simpa using hkn
      rcases HL.out with h0 | ⟨g, o, rfl, hg, hc⟩
      · omega
      obtain ⟨c0, c1, c2, c3, c4⟩ := hc k hkn
      have d0 := (HB.out.cell (p := ⟨g, _, none⟩) hg).trans c0
      have d1 := (HB.out.cell (p := ⟨g, _, none⟩) hg).trans c1
      have d2 := (HB.out.cell (p := ⟨g, _, none⟩) hg).trans c2
      have d3 := (HB.out.cell (p := ⟨g, _, none⟩) hg).trans c3
      have d4 := (HB.out.cell (p := ⟨g, _, none⟩) hg).trans c4
      have HE : Hid (legF L (k * 5) = .string (L k).fa ∧ legF L (k * 5 + 1) = .string (L k).fs ∧ legF L (k * 5 + 2) = .string (L k).ta ∧ legF L (k * 5 + 3) = .string (L k).ts ∧ legF L (k * 5 + 4) = .int .i64 (L k).m) := legF_at L k
      clear hc c0 c1 c2 c3 c4
      generalize (L k).fa = x0 at *
      generalize (L k).fs = x1 at *
      generalize (L k).ta = x2 at *
      generalize (L k).ts = x3 at *
      generalize (L k).m = x4 at *
      go_wp2_with fail
      refine (to_leg x0 x1 x2 x3 x4 _).mono ?_
      rintro e w2 ⟨rfl, hb2⟩
      have HO2 : Hid (Own w2 w.heap.size (n * 5) (fun j => if j < k * 5 then legF L j else F0 j)) := HOr.out.below hb2
      have HB2 : Hid (Below w.heap.size w w2) := HB.out.trans (hb2.mono HB.out.size)
      clear hb2 d0 d1 d2 d3 d4
      have a0 := HO2.out.2.1 (k * 5) (by omega)
      have a1 := HO2.out.2.1 (k * 5 + 1) (by omega)
      have a2 := HO2.out.2.1 (k * 5 + 2) (by omega)
      have a3 := HO2.out.2.1 (k * 5 + 3) (by omega)
      have a4 := HO2.out.2.1 (k * 5 + 4) (by omega)
      have hf := HO2.out.2.2
      simp only [show ¬ k * 5 < k * 5 by omega, show ¬ k * 5 + 1 < k * 5 by omega, show ¬ k * 5 + 2 < k * 5 by omega, show ¬ k * 5 + 3 < k * 5 by omega, show ¬ k * 5 + 4 < k * 5 by omega, if_false] at a0 a1 a2 a3 a4
      generalize F0 (k * 5) = y0 at a0
      generalize F0 (k * 5 + 1) = y1 at a1
      generalize F0 (k * 5 + 2) = y2 at a2
      generalize F0 (k * 5 + 3) = y3 at a3
      generalize F0 (k * 5 + 4) = y4 at a4
      have HN := fun (_ : Unit) => five_step HO2.out hkn HE.out.1 HE.out.2.1 HE.out.2.2.1 HE.out.2.2.2.1 HE.out.2.2.2.2
      have HN : Hid (Unit → _) := HN
      go_wp2_with fail
      go_roundw
      case rel =>
        have s := Nat.le_refl w.heap.size
        exact ⟨k + 1, by go_num, by omega, HN.out (), ((((HB2.out.setCell s _).setCell s _).setCell s _).setCell s _).setCell s _⟩
      case measure => simp [intOf]; omega
    · have p0 : decide (k < n) = false := by simpa using hkn
      have p1 : decide ((k : Int) < (n : Int)) = false := by simpa using hkn
      obtain rfl : k = n := by omega
      go_wp2_with fail
      go_ret
      exact ⟨w.heap.size, rfl, Nat.le_refl _, HOr.out.congr (fun j hj => by rw [if_pos hj]), HB.out⟩
set_option maxRecDepth 100000 in
set_option maxHeartbeats 4000000 in
theorem eq_leg (x0 x1 x2 x3 : ByteArray) (x4 : Int) (w : World) :
    Calls Try.prog 35 #[.agg #[.string x0, .string x1, .string x2, .string x3, .int .i64 x4], .agg #[.string x0, .string x1, .string x2, .string x3, .int .i64 x4]] w fun e w' => e = .returned (.bool true) ∧ Below w.heap.size w w' := by
  have hxx : ∀ x : Int, (x != x) = false := fun x => by simp
  go_enter Try.func35, Try.ntmps35
  go_wp2_with fail
  refine (eq_spot x0 x1 _).mono ?_
  rintro e w1 ⟨rfl, hb1⟩
  have T1 := (two_now w #[.string x0, .string x1, .string x2, .string x3, .int .i64 x4] #[.string x0, .string x1, .string x2, .string x3, .int .i64 x4] 70 70).next hb1
  have b2 := T1.box 2
  have b3 := T1.box 3
  have b4 := T1.box 4
  have r2 := T1.res 2
  have r3 := T1.res 3
  have r4 := T1.res 4
  simp at b2 b3 b4 r2 r3 r4
  have HT : Hid (Both w w1 #[.string x0, .string x1, .string x2, .string x3, .int .i64 x4] #[.string x0, .string x1, .string x2, .string x3, .int .i64 x4]) := T1
  clear hb1 T1
  go_wp2_with fail
  refine (eq_spot x2 x3 _).mono ?_
  rintro e w2 ⟨rfl, hb2⟩
  have T2 := HT.out.next hb2
  have c4 := T2.box 4
  have d4 := T2.res 4
  simp at c4 d4
  have HB : Hid (Below w.heap.size w w2) := T2.bel
  clear hb2 T2 b2 b3 b4 r2 r3 r4
  go_wp2_with fail
  go_ret
  exact ⟨rfl, HB.out⟩
set_option maxRecDepth 100000 in
set_option maxHeartbeats 4000000 in
theorem eq_legs (a a' : Option Addr) (n cap cap' : Nat) (L : Nat → Lg) (hn : n ≤ 1048576) (w : World) (h : LegsAt w a n L) (h' : LegsAt w a' n L) :
    Calls Try.prog 15 #[.slice a n cap, .slice a' n cap'] w fun e w' => e = .returned (.bool true) ∧ Below w.heap.size w w' := by
  have HR : Hid (LegsAt w a n L) := h
  have HR' : Hid (LegsAt w a' n L) := h'
  clear h h'
  have hnn : ((n : Int) != (n : Int)) = false := by simp
  go_enter Try.func15, Try.ntmps15
  go_wp2_with fail
  go_loopw [5] (fun i wr => ∃ k : Nat, i = .int .i64 k ∧ k ≤ n ∧ Below w.heap.size w wr) (fun i _ => n - (intOf i).toNat)
  case atStart => exact ⟨0, rfl, by omega, Below.refl _ _⟩
  case round =>
    obtain ⟨k, rfl, hk, hb⟩ := hrel
    have HB : Hid (Below w.heap.size w wr) := hb
    have hsr := hb.size
    clear hb
    by_cases hkn : k < n
    · have q0 : decide (k < n) = true := by simpa using hkn
      have q1 : decide ((k : Int) < (n : Int)) = true := by simpa using hkn
      rcases HR.out with h0 | ⟨g, o, rfl, hg, hc⟩
      · omega
      rcases HR'.out with h0 | ⟨g', o', rfl, hg', hc'⟩
      · omega
      obtain ⟨c0, c1, c2, c3, c4⟩ := hc k hkn
      obtain ⟨d0, d1, d2, d3, d4⟩ := hc' k hkn
      have a0 := (HB.out.cell (p := ⟨g, _, none⟩) hg).trans c0
      have a1 := (HB.out.cell (p := ⟨g, _, none⟩) hg).trans c1
      have a2 := (HB.out.cell (p := ⟨g, _, none⟩) hg).trans c2
      have a3 := (HB.out.cell (p := ⟨g, _, none⟩) hg).trans c3
      have a4 := (HB.out.cell (p := ⟨g, _, none⟩) hg).trans c4
      have b0 := (HB.out.cell (p := ⟨g', _, none⟩) hg').trans d0
      have b1 := (HB.out.cell (p := ⟨g', _, none⟩) hg').trans d1
      have b2 := (HB.out.cell (p := ⟨g', _, none⟩) hg').trans d2
      have b3 := (HB.out.cell (p := ⟨g', _, none⟩) hg').trans d3
      have b4 := (HB.out.cell (p := ⟨g', _, none⟩) hg').trans d4
      clear hc hc' c0 c1 c2 c3 c4 d0 d1 d2 d3 d4
      generalize (L k).fa = x0 at *
      generalize (L k).fs = x1 at *
      generalize (L k).ta = x2 at *
      generalize (L k).ts = x3 at *
      generalize (L k).m = x4 at *
      have hgr : g < wr.heap.size := by omega
      have hgr' : g' < wr.heap.size := by omega
      go_upto_region 6 with fail
      go_region_held3 (fun W => W.cell? ⟨g, o + k * 5, none⟩ = some (.string x0) ∧ W.cell? ⟨g, o + k * 5 + 1, none⟩ = some (.string x1) ∧ W.cell? ⟨g, o + k * 5 + 2, none⟩ = some (.string x2) ∧ W.cell? ⟨g, o + k * 5 + 3, none⟩ = some (.string x3) ∧ W.cell? ⟨g, o + k * 5 + 4, none⟩ = some (.int .i64 x4) ∧ W.cell? ⟨g', o' + k * 5, none⟩ = some (.string x0) ∧ W.cell? ⟨g', o' + k * 5 + 1, none⟩ = some (.string x1) ∧ W.cell? ⟨g', o' + k * 5 + 2, none⟩ = some (.string x2) ∧ W.cell? ⟨g', o' + k * 5 + 3, none⟩ = some (.string x3) ∧ W.cell? ⟨g', o' + k * 5 + 4, none⟩ = some (.int .i64 x4)) (go_keep) (first | (go_at_call 35; refine (eq_leg _ _ _ _ _ _).mono ?_; rintro e w2 ⟨rfl, hb2⟩; have e0 : w2.cell? ⟨g, o + k * 5, none⟩ = some (.string x0) := (hb2.cell (p := ⟨g, o + k * 5, none⟩) hgr).trans a0; have e1 : w2.cell? ⟨g, o + k * 5 + 1, none⟩ = some (.string x1) := (hb2.cell (p := ⟨g, o + k * 5 + 1, none⟩) hgr).trans a1; have e2 : w2.cell? ⟨g, o + k * 5 + 2, none⟩ = some (.string x2) := (hb2.cell (p := ⟨g, o + k * 5 + 2, none⟩) hgr).trans a2; have e3 : w2.cell? ⟨g, o + k * 5 + 3, none⟩ = some (.string x3) := (hb2.cell (p := ⟨g, o + k * 5 + 3, none⟩) hgr).trans a3; have e4 : w2.cell? ⟨g, o + k * 5 + 4, none⟩ = some (.int .i64 x4) := (hb2.cell (p := ⟨g, o + k * 5 + 4, none⟩) hgr).trans a4; have f0 : w2.cell? ⟨g', o' + k * 5, none⟩ = some (.string x0) := (hb2.cell (p := ⟨g', o' + k * 5, none⟩) hgr').trans b0; have f1 : w2.cell? ⟨g', o' + k * 5 + 1, none⟩ = some (.string x1) := (hb2.cell (p := ⟨g', o' + k * 5 + 1, none⟩) hgr').trans b1; have f2 : w2.cell? ⟨g', o' + k * 5 + 2, none⟩ = some (.string x2) := (hb2.cell (p := ⟨g', o' + k * 5 + 2, none⟩) hgr').trans b2; have f3 : w2.cell? ⟨g', o' + k * 5 + 3, none⟩ = some (.string x3) := (hb2.cell (p := ⟨g', o' + k * 5 + 3, none⟩) hgr').trans b3; have f4 : w2.cell? ⟨g', o' + k * 5 + 4, none⟩ = some (.int .i64 x4) := (hb2.cell (p := ⟨g', o' + k * 5 + 4, none⟩) hgr').trans b4))
      have HB2 : Hid (Below w.heap.size w w2) := HB.out.drew.trans (hb2.mono hsr)
      clear hb2 a0 a1 a2 a3 a4 b0 b1 b2 b3 b4 e0 e1 e2 e3 e4 f0 f1 f2 f3 f4
      go_wp2
      go_roundw
      case rel => exact ⟨k + 1, by go_num, by omega, HB2.out⟩
      case measure => simp [intOf]; omega
    · have q0 : decide (k < n) = false := by simpa using hkn
      have q1 : decide ((k : Int) < (n : Int)) = false := by simpa using hkn
      go_wp2_with fail
      go_ret
      exact ⟨rfl, HB.out⟩
end Go.Proofs.Ythjanamnkhggfaa
