/- slices.BinarySearchFunc over lines: what the call does. -/
import Derived.Test.YtpabdapaegllnaaDoorBkP
import Derived.Deep.RegionHeld3
import Derived.Deep.DeepCutAuto
import Derived.BigQuiet
namespace Go.Proofs.YtpabdapaegllnaaDoor
open Go.RowKit
open Go.Proofs.YtpabdapaegllnaaDoor.Draw

/-- A block of one line's cells. -/
structure Lc (W : World) (b : Nat) (x y : ByteArray) (m : Int) : Prop where
  c0 : W.cell? ⟨b, 0, none⟩ = some (.string x)
  c1 : W.cell? ⟨b, 1, none⟩ = some (.string y)
  c2 : W.cell? ⟨b, 2, none⟩ = some (.int .i64 m)
  lt : b < W.heap.size
theorem Lc.below {W W' : World} {b : Nat} {x y : ByteArray} {m : Int} (h : Lc W b x y m) (hb : Below W.heap.size W W') : Lc W' b x y m := ⟨(hb.cell (p := ⟨b, 0, none⟩) h.lt).trans h.c0, (hb.cell (p := ⟨b, 1, none⟩) h.lt).trans h.c1, (hb.cell (p := ⟨b, 2, none⟩) h.lt).trans h.c2, Nat.lt_of_lt_of_le h.lt hb.size⟩
theorem Lc.new (w : World) (x y : ByteArray) (m : Int) (t : TypeId) : Lc (w.alloc (.cells #[.string x, .string y, .int .i64 m] t)) w.heap.size x y m := ⟨by simp, by simp, by simp, by simp⟩
set_option maxRecDepth 100000 in
set_option maxHeartbeats 8000000 in
theorem search_line (ad : Option Addr) (n cap : Nat) (L : Nat → Ln) (hn : n ≤ 60) (x y : ByteArray) (k : Nat) (hk : IsPlace L x y n k) (w : World) (h : LinesAt w ad n L) :
    Calls Tryd.prog 76 #[.slice ad n cap, .agg #[.string x, .string y, .int .i64 0], .func (Fn.func 77) #[] #[]] w fun e w' => (∃ b, e = .returned (.tuple #[.int .i64 (k : Int), .bool b])) ∧ Below w.heap.size w w' := by
  have HK : Hid (IsPlace L x y n k) := hk
  have HL : Hid (LinesAt w ad n L) := h
  have hkn : k ≤ n := hk.1
  clear hk h
  have HB0 : Hid (Below w.heap.size w (w.alloc (.cells #[.string x, .string y, .int .i64 0] 46))) := (Below.refl _ _).alloc (Nat.le_refl _) _
  have HC0 : Hid (Lc (w.alloc (.cells #[.string x, .string y, .int .i64 0] 46)) w.heap.size x y 0) := Lc.new _ _ _ _ _
  go_enter Tryd.func76, Tryd.ntmps76
  go_wp2_with fail
  go_loopw [9, 10] (fun i j wr => ∃ I J : Nat, i = .int .i64 (I : Int) ∧ j = .int .i64 (J : Int) ∧ I ≤ k ∧ k ≤ J ∧ J ≤ n ∧ Hid (Lc wr w.heap.size x y 0) ∧ Hid (Below w.heap.size w wr)) (fun i j _ => (intOf j).toNat - (intOf i).toNat)
  case atStart => exact ⟨0, n, rfl, rfl, by omega, hkn, Nat.le_refl _, HC0, HB0⟩
  case round =>
    clear HC0 HB0
    obtain ⟨I, J, rfl, rfl, hIk, hkJ, hJn, HC, HB⟩ := hrel
    have c0 := HC.out.c0
    have c1 := HC.out.c1
    have c2 := HC.out.c2
    have hne : wr.heap.size ≠ w.heap.size := by have := HC.out.lt; omega
    by_cases hij : I < J
    · have p0 : decide (I < J) = true := by simpa using hij
      have p1 : decide ((I : Int) < (J : Int)) = true := by simpa using hij
      obtain ⟨H, hH⟩ : ∃ H, H = (I + J) / 2 := ⟨_, rfl⟩
      have hHI : ((I : Int) + (J : Int)) / 2 = (H : Int) := by omega
      have hH1 : I ≤ H := by omega
      have hH2 : H < J := by omega
      have hHn : H < n := by omega
      rcases HL.out with h0 | ⟨g, o, rfl, hg, hc⟩
      · omega
      obtain ⟨d0, d1, d2⟩ := hc H hHn
      have a0 := (HB.out.cell (p := ⟨g, _, none⟩) hg).trans d0
      have a1 := (HB.out.cell (p := ⟨g, _, none⟩) hg).trans d1
      have a2 := (HB.out.cell (p := ⟨g, _, none⟩) hg).trans d2
      have hgl : g < wr.heap.size := by have := HB.out.size; omega
      clear hc d0 d1 d2
      have hgo : g ≠ w.heap.size := by omega
      have HCM : Hid (∀ W, Calls Tryd.prog 77 #[.agg #[.string (L H).a, .string (L H).s, .int .i64 (L H).m], .agg #[.string x, .string y, .int .i64 0]] W fun e w' => e = .returned (.int .i64 (cmpP (L H).a (L H).s x y)) ∧ Below W.heap.size W w') := fun W => impl_cmp _ _ _ _ _ _ W
      have hneg := cmpP_neg (L H).a (L H).s x y
      have HLH : Hid (lessP (L H).a (L H).s x y = decide (H < k)) := by
        by_cases e : H < k
        · rw [decide_eq_true e]; exact HK.out.2.1 H e
        · rw [decide_eq_false e]; exact HK.out.2.2 H (by omega) hHn
      rw [HLH.out] at hneg
      clear HLH
      generalize cmpP (L H).a (L H).s x y = C at *
      generalize (L H).a = l0 at *
      generalize (L H).s = l1 at *
      generalize (L H).m = l2 at *
      have q0 : decide (C < 0) = decide (H < k) := by
        by_cases e : H < k
        · rw [decide_eq_true e] at hneg ⊢; simp at hneg ⊢; omega
        · rw [decide_eq_false e] at hneg ⊢; simp at hneg ⊢; omega
      clear hneg hH
      go_upto_region 5 with fail
      go_cut [31] (fun v wx => v = .bool (decide (H < k)) ∧ Hid (Lc wx w.heap.size x y 0) ∧ Hid (Below w.heap.size w wx))
      case first =>
        go_region_held3 (fun W => W.cell? ⟨g, o + H * 3, none⟩ = some (.string l0) ∧ W.cell? ⟨g, o + H * 3 + 1, none⟩ = some (.string l1) ∧ W.cell? ⟨g, o + H * 3 + 2, none⟩ = some (.int .i64 l2) ∧ W.cell? ⟨w.heap.size, 0, none⟩ = some (.string x) ∧ W.cell? ⟨w.heap.size, 1, none⟩ = some (.string y) ∧ W.cell? ⟨w.heap.size, 2, none⟩ = some (.int .i64 0)) (go_keep) (first | (go_at_call 77; refine (HCM.out _).mono ?_; rintro e wa ⟨rfl, hba⟩; have Xa : Lc wa w.heap.size x y 0 := (by first | exact HC.out.below hba | exact (HC.out.below ((Below.refl _ _).drew)).below hba); have Ba : Below w.heap.size w wa := (by first | exact HB.out.trans (hba.mono HB.out.size) | exact HB.out.drew.trans (hba.mono HB.out.size)); have f0 : wa.cell? ⟨g, o + H * 3, none⟩ = some (.string l0) := (by first | exact (hba.cell (p := ⟨g, o + H * 3, none⟩) hgl).trans a0 | exact (hba.cell (p := ⟨g, o + H * 3, none⟩) (by show g < _; exact hgl)).trans a0); have f1 : wa.cell? ⟨g, o + H * 3 + 1, none⟩ = some (.string l1) := (by first | exact (hba.cell (p := ⟨g, o + H * 3 + 1, none⟩) hgl).trans a1 | exact (hba.cell (p := ⟨g, o + H * 3 + 1, none⟩) (by show g < _; exact hgl)).trans a1); have f2 : wa.cell? ⟨g, o + H * 3 + 2, none⟩ = some (.int .i64 l2) := (by first | exact (hba.cell (p := ⟨g, o + H * 3 + 2, none⟩) hgl).trans a2 | exact (hba.cell (p := ⟨g, o + H * 3 + 2, none⟩) (by show g < _; exact hgl)).trans a2); have f3 : wa.cell? ⟨w.heap.size, 0, none⟩ = some (.string x) := (by first | exact (hba.cell (p := ⟨w.heap.size, 0, none⟩) HC.out.lt).trans c0 | exact (hba.cell (p := ⟨w.heap.size, 0, none⟩) (by show w.heap.size < _; exact HC.out.lt)).trans c0); have f4 : wa.cell? ⟨w.heap.size, 1, none⟩ = some (.string y) := (by first | exact (hba.cell (p := ⟨w.heap.size, 1, none⟩) HC.out.lt).trans c1 | exact (hba.cell (p := ⟨w.heap.size, 1, none⟩) (by show w.heap.size < _; exact HC.out.lt)).trans c1); have f5 : wa.cell? ⟨w.heap.size, 2, none⟩ = some (.int .i64 0) := (by first | exact (hba.cell (p := ⟨w.heap.size, 2, none⟩) HC.out.lt).trans c2 | exact (hba.cell (p := ⟨w.heap.size, 2, none⟩) (by show w.heap.size < _; exact HC.out.lt)).trans c2); have ne0 : wa.heap.size ≠ w.heap.size := (by have hz : wr.heap.size ≤ wa.heap.size := hba.size; have := HC.out.lt; omega); have neg : wa.heap.size ≠ g := (by have hz : wr.heap.size ≤ wa.heap.size := hba.size; have := hgl; omega)))
        all_goals go_wp2_with fail
        all_goals go_meet
        all_goals first | exact ⟨rfl, Xa, Ba⟩ | exact ⟨by rw [q0], Xa, Ba⟩
      case rest =>
        obtain ⟨rfl, HCx, HBx⟩ := hcut
        by_cases e : H < k
        · have r0 : decide (H < k) = true := decide_eq_true e
          go_wp2_with fail
          go_roundw
          case rel => exact ⟨H + 1, J, by go_num, rfl, by omega, by omega, hJn, HCx, HBx⟩
          case measure => simp [intOf]; omega
        · have r0 : decide (H < k) = false := decide_eq_false e
          go_wp2_with fail
          go_roundw
          case rel => exact ⟨I, H, rfl, by go_num, by omega, by omega, by omega, HCx, HBx⟩
          case measure => simp [intOf]; omega
    · have p0 : decide (I < J) = false := by simpa using hij
      have p1 : decide ((I : Int) < (J : Int)) = false := by simpa using hij
      obtain rfl : I = k := by omega
      clear HK
      by_cases hin : I < n
      · have s0 : decide (I < n) = true := by simpa using hin
        have s1 : decide ((I : Int) < (n : Int)) = true := by simpa using hin
        rcases HL.out with h0 | ⟨g, o, rfl, hg, hc⟩
        · omega
        obtain ⟨d0, d1, d2⟩ := hc I hin
        have a0 := (HB.out.cell (p := ⟨g, _, none⟩) hg).trans d0
        have a1 := (HB.out.cell (p := ⟨g, _, none⟩) hg).trans d1
        have a2 := (HB.out.cell (p := ⟨g, _, none⟩) hg).trans d2
        have hgl : g < wr.heap.size := by have := HB.out.size; omega
        clear hc d0 d1 d2
        have hgo : g ≠ w.heap.size := by omega
        have HCM : Hid (∀ W, Calls Tryd.prog 77 #[.agg #[.string (L I).a, .string (L I).s, .int .i64 (L I).m], .agg #[.string x, .string y, .int .i64 0]] W fun e w' => e = .returned (.int .i64 (cmpP (L I).a (L I).s x y)) ∧ Below W.heap.size W w') := fun W => impl_cmp _ _ _ _ _ _ W
        generalize cmpP (L I).a (L I).s x y = C at *
        generalize (L I).a = l0 at *
        generalize (L I).s = l1 at *
        generalize (L I).m = l2 at *
        go_upto_region 8 with fail
        go_region_held3 (fun W => W.cell? ⟨g, o + I * 3, none⟩ = some (.string l0) ∧ W.cell? ⟨g, o + I * 3 + 1, none⟩ = some (.string l1) ∧ W.cell? ⟨g, o + I * 3 + 2, none⟩ = some (.int .i64 l2) ∧ W.cell? ⟨w.heap.size, 0, none⟩ = some (.string x) ∧ W.cell? ⟨w.heap.size, 1, none⟩ = some (.string y) ∧ W.cell? ⟨w.heap.size, 2, none⟩ = some (.int .i64 0)) (go_keep) (first | (go_at_call 77; refine (HCM.out _).mono ?_; rintro e wa ⟨rfl, hba⟩; have Ba : Below w.heap.size w wa := (by first | exact HB.out.trans (hba.mono HB.out.size) | exact HB.out.drew.trans (hba.mono HB.out.size)); have f0 : wa.cell? ⟨g, o + I * 3, none⟩ = some (.string l0) := (by first | exact (hba.cell (p := ⟨g, o + I * 3, none⟩) hgl).trans a0 | exact (hba.cell (p := ⟨g, o + I * 3, none⟩) (by show g < _; exact hgl)).trans a0); have f1 : wa.cell? ⟨g, o + I * 3 + 1, none⟩ = some (.string l1) := (by first | exact (hba.cell (p := ⟨g, o + I * 3 + 1, none⟩) hgl).trans a1 | exact (hba.cell (p := ⟨g, o + I * 3 + 1, none⟩) (by show g < _; exact hgl)).trans a1); have f2 : wa.cell? ⟨g, o + I * 3 + 2, none⟩ = some (.int .i64 l2) := (by first | exact (hba.cell (p := ⟨g, o + I * 3 + 2, none⟩) hgl).trans a2 | exact (hba.cell (p := ⟨g, o + I * 3 + 2, none⟩) (by show g < _; exact hgl)).trans a2); have f3 : wa.cell? ⟨w.heap.size, 0, none⟩ = some (.string x) := (by first | exact (hba.cell (p := ⟨w.heap.size, 0, none⟩) HC.out.lt).trans c0 | exact (hba.cell (p := ⟨w.heap.size, 0, none⟩) (by show w.heap.size < _; exact HC.out.lt)).trans c0); have f4 : wa.cell? ⟨w.heap.size, 1, none⟩ = some (.string y) := (by first | exact (hba.cell (p := ⟨w.heap.size, 1, none⟩) HC.out.lt).trans c1 | exact (hba.cell (p := ⟨w.heap.size, 1, none⟩) (by show w.heap.size < _; exact HC.out.lt)).trans c1); have f5 : wa.cell? ⟨w.heap.size, 2, none⟩ = some (.int .i64 0) := (by first | exact (hba.cell (p := ⟨w.heap.size, 2, none⟩) HC.out.lt).trans c2 | exact (hba.cell (p := ⟨w.heap.size, 2, none⟩) (by show w.heap.size < _; exact HC.out.lt)).trans c2); have ne0 : wa.heap.size ≠ w.heap.size := (by have hz : wr.heap.size ≤ wa.heap.size := hba.size; have := HC.out.lt; omega); have neg : wa.heap.size ≠ g := (by have hz : wr.heap.size ≤ wa.heap.size := hba.size; have := hgl; omega)))
        all_goals go_wp2_with fail
        all_goals
          refine bodyPost_ret (v := .tuple #[.int .i64 (I : Int), .bool (C == 0)]) ?_ rfl ⟨⟨_, rfl⟩, Ba⟩
          simp [results, Tryd.results76, go_sem]
      · have s0 : decide (I < n) = false := by simpa using hin
        have s1 : decide ((I : Int) < (n : Int)) = false := by simpa using hin
        go_upto_region 8 with fail
        go_quiet (fail)
        go_wp2_with fail
        refine bodyPost_ret (v := .tuple #[.int .i64 (I : Int), .bool false]) ?_ rfl ⟨⟨_, rfl⟩, by first | exact HB.out | exact HB.out.drew | exact ⟨HB.out.os, HB.out.tape, HB.out.output, HB.out.size, HB.out.block⟩⟩
        simp [results, Tryd.results76, go_sem]
end Go.Proofs.YtpabdapaegllnaaDoor
