/- What functions come to: the model. -/
import Derived.Test.YtnefcldjigndgaaGreatDoorCvA
import Derived.Test.YtnefcldjigndgaaGreatDoorMdLaw
import Derived.Deep.RegionHeld3
namespace Go.Proofs.YtnefcldjigndgaaGreatDoor
open Go.RowKit
open Go.Proofs.YtnefcldjigndgaaGreatDoor.Draw

/-- A call's own answer, not written yet. -/
structure Rz (w W : World) : Prop where
  c0 : W.cell? ⟨w.heap.size, 0, none⟩ = some (.int .i64 0)
  c1 : W.cell? ⟨w.heap.size, 1, none⟩ = some (.int .i64 0)
  fz : ∀ j, W.frozen? ⟨w.heap.size, j, none⟩ = false
  lt : w.heap.size < W.heap.size
  bel : Below w.heap.size w W
theorem Rz.new (w : World) (t : TypeId) : Rz w (w.alloc (.cells #[.int .i64 0, .int .i64 0] t)) := ⟨by simp, by simp, fun j => fnew' rfl j, by simp, (Below.refl _ _).alloc (Nat.le_refl _) _⟩
theorem Rz.next {w W W' : World} (h : Rz w W) (hb : Below W.heap.size W W') : Rz w W' :=
  ⟨(hb.cell (p := ⟨w.heap.size, 0, none⟩) h.lt).trans h.c0, (hb.cell (p := ⟨w.heap.size, 1, none⟩) h.lt).trans h.c1, fun j => (hb.frozen (p := ⟨w.heap.size, j, none⟩) h.lt).trans (h.fz j), Nat.lt_of_lt_of_le h.lt hb.size, h.bel.trans (hb.mono h.bel.size)⟩
set_option maxRecDepth 100000 in
set_option maxHeartbeats 8000000 in
theorem spec_day9 (p q : Int) (w : World) :
    Calls Tryz.prog 12 #[.agg #[.int .i64 p, .int .i64 q]] w fun e w' => e = .returned (moneyV (p, q)) ∧ Below w.heap.size w w' := by
  go_enter Tryz.func12, Tryz.ntmps12
  go_wp2_with fail
  refine bodyPost_ret (v := moneyV (p, q)) ?_ rfl ⟨rfl, ?_⟩
  · simp [results, Tryz.results12, go_sem, moneyV]
  · repeat (first | exact Below.refl _ _ | refine Below.setCell ?_ (by simp) _ | refine Below.alloc ?_ (by simp) _)
set_option maxRecDepth 100000 in
set_option maxHeartbeats 8000000 in
theorem spec_max9 (a b : Int) (w : World) :
    Calls Tryz.prog 19 #[.int .i64 a, .int .i64 b] w fun e w' => e = .returned (.int .i64 (max a b)) ∧ w' = w := by
  by_cases h : a < b
  · have q : decide (a < b) = true := by simpa using h
    have HR : Hid (max a b = b) := by show _ = _; omega
    by_cases h' : b < a
    · omega
    have q' : decide (b < a) = false := by simpa using h'
    go_enter Tryz.func19, Tryz.ntmps19
    go_wp2_with fail
    go_ret
    exact ⟨ret_int HR.out.symm, rfl⟩
  · have q : decide (a < b) = false := by simpa using h
    by_cases h' : b < a
    · have q' : decide (b < a) = true := by simpa using h'
      have HR : Hid (max a b = a) := by show _ = _; omega
      go_enter Tryz.func19, Tryz.ntmps19
      go_wp2_with fail
      go_ret
      exact ⟨ret_int HR.out.symm, rfl⟩
    · have q' : decide (b < a) = false := by simpa using h'
      have e : a = b := by omega
      subst e
      rw [show max a a = a by omega]
      go_enter Tryz.func19, Tryz.ntmps19
      go_wp2_with fail
      go_ret
      exact ⟨rfl, rfl⟩
set_option maxRecDepth 100000 in
set_option maxHeartbeats 8000000 in
theorem spec_cv_basis (y : Int × Int) (b : Int) (s : ByteArray) (n cap : Nat) (a : Option Addr) (T : Nat → Int) (hs : s.size ≤ 20000) (hns : n ≤ 400) (hb : basisB b = false) (w : World) :
    Calls Tryz.prog 4 #[.int .i64 b, .string s, .slice a n cap] w fun e w' => e = .returned (moneyV (cvB y b s n T)) ∧ Below w.heap.size w w' := by
  have q0 : decide (20000 < s.size) = false := by simp; omega
  have q1 : decide ((20000 : Int) < (s.size : Int)) = false := by simp; omega
  have r0 : decide (400 < n) = false := by simp; omega
  have r1 : decide ((400 : Int) < (n : Int)) = false := by simp; omega
  have HR : Hid (cvB y b s n T = (0, 1)) := by show _ = _; unfold cvB; rw [if_pos hb]
  by_cases h1 : b < 1
  · have t0 : decide (b < 1) = true := by simpa using h1
    clear hb
    go_enter Tryz.func4, Tryz.ntmps4
    go_wp2_with fail
    refine bodyPost_ret (v := moneyV (0, 1)) ?_ rfl ⟨by rw [HR.out], ?_⟩
    · simp [results, Tryz.results4, go_sem, moneyV]
    · repeat (first | exact Below.refl _ _ | refine Below.setCell ?_ (by exact Nat.le_refl _) _ | refine Below.alloc ?_ (by simp) _)
  · have t0 : decide (b < 1) = false := by simpa using h1
    have h3 : 3 < b := by
      have : ¬ (1 ≤ b ∧ b ≤ 3) := fun h => by rw [(basisB_iff b).2 h] at hb; cases hb
      omega
    have t1 : decide (3 < b) = true := by simpa using h3
    clear hb
    go_enter Tryz.func4, Tryz.ntmps4
    go_wp2_with fail
    refine bodyPost_ret (v := moneyV (0, 1)) ?_ rfl ⟨by rw [HR.out], ?_⟩
    · simp [results, Tryz.results4, go_sem, moneyV]
    · repeat (first | exact Below.refl _ _ | refine Below.setCell ?_ (by exact Nat.le_refl _) _ | refine Below.alloc ?_ (by simp) _)
set_option maxRecDepth 100000 in
set_option maxHeartbeats 8000000 in
theorem spec_cv_name (y : Int × Int) (b : Int) (s : ByteArray) (n cap : Nat) (a : Option Addr) (T : Nat → Int) (hs : s.size ≤ 20000) (hns : n ≤ 400) (hb : basisB b = true) (hc : callB s = false) (w : World) :
    Calls Tryz.prog 4 #[.int .i64 b, .string s, .slice a n cap] w fun e w' => e = .returned (moneyV (cvB y b s n T)) ∧ Below w.heap.size w w' := by
  have q0 : decide (20000 < s.size) = false := by simp; omega
  have q1 : decide ((20000 : Int) < (s.size : Int)) = false := by simp; omega
  have r0 : decide (400 < n) = false := by simp; omega
  have r1 : decide ((400 : Int) < (n : Int)) = false := by simp; omega
  have hb13 := (basisB_iff b).1 hb
  have t0 : decide (b < 1) = false := by simp; omega
  have t1 : decide (3 < b) = false := by simp; omega
  have HR : Hid (cvB y b s n T = (0, 6)) := by show _ = _; unfold cvB; rw [if_neg (by rw [hb]; decide), if_pos hc]
  have HZ : Hid (Rz w (w.alloc (.cells #[.int .i64 0, .int .i64 0] 24))) := Rz.new _ _
  have HT : Hid (∀ W, Calls Tryz.prog 9 #[.string s] W fun e w' => ∃ a cap, e = .returned (.slice a 0 cap) ∧ Below W.heap.size W w') := fun W => (spec_callT s W).mono (by rintro e w' ⟨a, cap, rfl, _, _, hb⟩; exact ⟨a, cap, by rw [(word_no hc).1]; rfl, hb⟩)
  clear hc hb hb13
  go_enter Tryz.func4, Tryz.ntmps4
  go_wp2_with fail
  refine (HT.out _).mono ?_
  rintro e w2 ⟨ta, tc, rfl, hb2⟩
  have HZ2 : Hid (Rz w w2) := HZ.out.next hb2
  clear hb2 HZ
  have o0 := HZ2.out.c0
  have o1 := HZ2.out.c1
  have of := HZ2.out.fz
  have HBF : Hid (Below w.heap.size w _) := HZ2.out.bel
  go_wp2_with fail
  refine bodyPost_ret (v := moneyV (0, 6)) ?_ rfl ⟨by rw [HR.out], ?_⟩
  · simp [results, Tryz.results4, go_sem, o0, o1, moneyV]
  · exact (HBF.out.setCell (Nat.le_refl _) _).setCell (Nat.le_refl _) _
set_option maxRecDepth 100000 in
set_option maxHeartbeats 8000000 in
theorem spec_cv_count (y : Int × Int) (b : Int) (s : ByteArray) (n cap : Nat) (a : Option Addr) (T : Nat → Int) (hs : s.size ≤ 20000) (hns : n ≤ 400) (hb : basisB b = true) (hc : callB s = true) (hn : n + 1 ≠ (callT s).length) (hpos : 1 ≤ (callT s).length) (w : World) :
    Calls Tryz.prog 4 #[.int .i64 b, .string s, .slice a n cap] w fun e w' => e = .returned (moneyV (cvB y b s n T)) ∧ Below w.heap.size w w' := by
  have q0 : decide (20000 < s.size) = false := by simp; omega
  have q1 : decide ((20000 : Int) < (s.size : Int)) = false := by simp; omega
  have r0 : decide (400 < n) = false := by simp; omega
  have r1 : decide ((400 : Int) < (n : Int)) = false := by simp; omega
  have hb13 := (basisB_iff b).1 hb
  have t0 : decide (b < 1) = false := by simp; omega
  have t1 : decide (3 < b) = false := by simp; omega
  have HR : Hid (cvB y b s n T = (0, 1)) := by show _ = _; unfold cvB; rw [if_neg (by rw [hb]; decide), if_neg (by rw [hc]; decide), if_pos hn]
  have HZ : Hid (Rz w (w.alloc (.cells #[.int .i64 0, .int .i64 0] 24))) := Rz.new _ _
  have hm5 := callT_len s
  have HT : Hid (∀ W, Calls Tryz.prog 9 #[.string s] W fun e w' => ∃ a cap, e = .returned (.slice a (callT s).length cap) ∧ Below W.heap.size W w') := fun W => (spec_callT s W).mono (by rintro e w' ⟨a, cap, rfl, _, _, hb⟩; exact ⟨a, cap, rfl, hb⟩)
  generalize (callT s).length = m at *
  have u0 : ((m : Int) == 0) = false := by rw [beq_eq_false_iff_ne]; omega
  have u1 : ((n : Int) + 1 != (m : Int)) = true := by rw [bne_iff_ne]; omega
  clear hc hn hb hb13
  go_enter Tryz.func4, Tryz.ntmps4
  go_wp2_with fail
  refine (HT.out _).mono ?_
  rintro e w2 ⟨ta, tc, rfl, hb2⟩
  have HZ2 : Hid (Rz w w2) := HZ.out.next hb2
  clear hb2 HZ
  have o0 := HZ2.out.c0
  have o1 := HZ2.out.c1
  have of := HZ2.out.fz
  have HBF : Hid (Below w.heap.size w _) := HZ2.out.bel
  go_wp2_with fail
  refine bodyPost_ret (v := moneyV (0, 1)) ?_ rfl ⟨by rw [HR.out], ?_⟩
  · simp [results, Tryz.results4, go_sem, o0, o1, moneyV]
  · exact (HBF.out.setCell (Nat.le_refl _) _).setCell (Nat.le_refl _) _
set_option linter.unusedVariables false in
set_option maxRecDepth 100000 in
set_option maxHeartbeats 8000000 in
theorem spec_cv_interest (y : Int × Int) (b : Int) (s : ByteArray) (n cap : Nat) (a : Option Addr) (T : Nat → Int) (hs : s.size ≤ 20000) (hns : n ≤ 400) (hb : basisB b = true) (hw : s.toList = [105, 110, 116, 101, 114, 101, 115, 116]) (hn : n + 1 = (callT s).length) (hI : InstOf (T 0) (T 1) b (T 3) (T 2) y) (w : World) (h : IntsAt w a n T) :
    Calls Tryz.prog 4 #[.int .i64 b, .string s, .slice a n cap] w fun e w' => e = .returned (moneyV (cvB y b s n T)) ∧ Below w.heap.size w w' := by
  have q0 : decide (20000 < s.size) = false := by simp; omega
  have q1 : decide ((20000 : Int) < (s.size : Int)) = false := by simp; omega
  have r0 : decide (400 < n) = false := by simp; omega
  have r1 : decide ((400 : Int) < (n : Int)) = false := by simp; omega
  have hb13 := (basisB_iff b).1 hb
  have t0 : decide (b < 1) = false := by simp; omega
  have t1 : decide (3 < b) = false := by simp; omega
  obtain ⟨hcb, hct, hcw⟩ := word_interest hw
  rw [hct] at hn
  obtain rfl : n = 4 := by simp at hn; omega
  have HR : Hid (cvB y b s 4 T = interestB (T 0) (T 1) b (T 2) (T 3)) := by show _ = _; unfold cvB; rw [if_neg (by rw [hb]; decide), if_neg (by rw [hcb]; decide), if_neg (by rw [hct]; simp), hcw]
  have HZ : Hid (Rz w (w.alloc (.cells #[.int .i64 0, .int .i64 0] 24))) := Rz.new _ _
  have HT : Hid (∀ W, Calls Tryz.prog 9 #[.string s] W fun e w' => ∃ a cap, e = .returned (.slice a 5 cap) ∧ Below W.heap.size W w') := fun W => (spec_callT s W).mono (by rintro e w' ⟨a, cap, rfl, _, _, hb⟩; exact ⟨a, cap, by rw [hct]; rfl, hb⟩)
  rcases h with h0 | ⟨g, f, rfl, hg, hc⟩
  · omega
  have x0 := hc 0 (by omega)
  have x1 := hc 1 (by omega)
  have x2 := hc 2 (by omega)
  have x3 := hc 3 (by omega)
  simp only [Nat.add_zero] at x0
  clear hc hcb hct hcw hn
  generalize T 0 = t0 at *
  generalize T 1 = t1 at *
  generalize T 2 = t2 at *
  generalize T 3 = t3 at *
  have k0 : (s.toList == [105, 110, 116, 101, 114, 101, 115, 116]) = true := by rw [hw]; rfl
  have HQ : Hid (∀ W, Calls Tryz.prog 10 #[.int .i64 t0, .int .i64 t1, .int .i64 b, .int .i64 t2, .int .i64 t3] W fun e w' => e = .returned (moneyV (interestB t0 t1 b t2 t3)) ∧ Below W.heap.size W w') := fun W => spec_interest t0 t1 b t2 t3 W
  generalize interestB t0 t1 b t2 t3 = m at *
  clear hw hI hb hb13 hs hns
  have HR2 : Hid (cvB y b s 4 T = m) := HR.out
  go_enter Tryz.func4, Tryz.ntmps4
  go_wp2_with fail
  refine (HT.out _).mono ?_
  rintro e w2 ⟨ta, tc, rfl, hb2⟩
  have hbz : Below w.heap.size w w2 := ((Below.refl w.heap.size w).alloc (Nat.le_refl _) _).trans (hb2.mono (by simp))
  have z0 := (hbz.cell (p := ⟨g, _, none⟩) hg).trans x0
  have z1 := (hbz.cell (p := ⟨g, _, none⟩) hg).trans x1
  have z2 := (hbz.cell (p := ⟨g, _, none⟩) hg).trans x2
  have z3 := (hbz.cell (p := ⟨g, _, none⟩) hg).trans x3
  have hg2 : g < w2.heap.size := Nat.lt_of_lt_of_le hg hbz.size
  have HZ2 : Hid (Rz w w2) := HZ.out.next hb2
  have hng : w2.heap.size ≠ g := by omega
  clear hb2 hbz HZ x0 x1 x2 x3
  go_upto_region 14 with fail
  have o0 := HZ2.out.c0
  have o1 := HZ2.out.c1
  have hnw : w2.heap.size ≠ w.heap.size := by have := HZ2.out.lt; omega
  have hgw : g ≠ w.heap.size := by omega
  have hwg : w.heap.size ≠ g := by omega
  go_region_held3 (fun W => W.cell? ⟨g, f + 2, none⟩ = some (.int .i64 t2) ∧ W.cell? ⟨g, f + 3, none⟩ = some (.int .i64 t3)) (go_keep) (first | (go_at_call 10; refine (HQ.out _).mono ?_; rintro e w3 ⟨rfl, hb3⟩; simp only [moneyV]; have hx3 : Below w2.heap.size w2 w3 := (by first | exact hb3 | exact (Below.refl _ _).drew.trans hb3); have u2 := (hx3.cell (p := ⟨g, _, none⟩) hg2).trans z2; have u3 := (hx3.cell (p := ⟨g, _, none⟩) hg2).trans z3; have HZ3 : Hid (Rz w w3) := HZ2.out.next hx3; have v0 := HZ3.out.c0; have v1 := HZ3.out.c1; have vf := HZ3.out.fz; have vl := HZ3.out.lt))
  all_goals
    have HBF : Hid (Below w.heap.size w w3) := HZ3.out.bel
    go_wp2_with fail
    refine bodyPost_ret (v := moneyV m) ?_ rfl ⟨by rw [HR2.out], ?_⟩
    · simp [results, Tryz.results4, go_sem, v0, v1, moneyV]
    · exact (HBF.out.setCell (Nat.le_refl _) _).setCell (Nat.le_refl _) _
set_option linter.unusedVariables false in
set_option maxRecDepth 100000 in
set_option maxHeartbeats 8000000 in
theorem spec_cv_instalment (y : Int × Int) (b : Int) (s : ByteArray) (n cap : Nat) (a : Option Addr) (T : Nat → Int) (hs : s.size ≤ 20000) (hns : n ≤ 400) (hb : basisB b = true) (hw : s.toList = [105, 110, 115, 116, 97, 108, 109, 101, 110, 116]) (hn : n + 1 = (callT s).length) (hI : InstOf (T 0) (T 1) b (T 3) (T 2) y) (w : World) (h : IntsAt w a n T) :
    Calls Tryz.prog 4 #[.int .i64 b, .string s, .slice a n cap] w fun e w' => e = .returned (moneyV (cvB y b s n T)) ∧ Below w.heap.size w w' := by
  have q0 : decide (20000 < s.size) = false := by simp; omega
  have q1 : decide ((20000 : Int) < (s.size : Int)) = false := by simp; omega
  have r0 : decide (400 < n) = false := by simp; omega
  have r1 : decide ((400 : Int) < (n : Int)) = false := by simp; omega
  have hb13 := (basisB_iff b).1 hb
  have t0 : decide (b < 1) = false := by simp; omega
  have t1 : decide (3 < b) = false := by simp; omega
  obtain ⟨hcb, hct, hcw⟩ := word_instalment hw
  rw [hct] at hn
  obtain rfl : n = 4 := by simp at hn; omega
  have HR : Hid (cvB y b s 4 T = y) := by show _ = _; unfold cvB; rw [if_neg (by rw [hb]; decide), if_neg (by rw [hcb]; decide), if_neg (by rw [hct]; simp), hcw]
  have HZ : Hid (Rz w (w.alloc (.cells #[.int .i64 0, .int .i64 0] 24))) := Rz.new _ _
  have HT : Hid (∀ W, Calls Tryz.prog 9 #[.string s] W fun e w' => ∃ a cap, e = .returned (.slice a 5 cap) ∧ Below W.heap.size W w') := fun W => (spec_callT s W).mono (by rintro e w' ⟨a, cap, rfl, _, _, hb⟩; exact ⟨a, cap, by rw [hct]; rfl, hb⟩)
  rcases h with h0 | ⟨g, f, rfl, hg, hc⟩
  · omega
  have x0 := hc 0 (by omega)
  have x1 := hc 1 (by omega)
  have x2 := hc 2 (by omega)
  have x3 := hc 3 (by omega)
  simp only [Nat.add_zero] at x0
  clear hc hcb hct hcw hn
  generalize T 0 = t0 at *
  generalize T 1 = t1 at *
  generalize T 2 = t2 at *
  generalize T 3 = t3 at *
  have k0 : (s.toList == [105, 110, 116, 101, 114, 101, 115, 116]) = false := by rw [hw]; rfl
  have k1 : (s.toList == [105, 110, 115, 116, 97, 108, 109, 101, 110, 116]) = true := by rw [hw]; rfl
  have HQ : Hid (∀ W, Calls Tryz.prog 11 #[.agg #[.int .i64 t0, .int .i64 t1, .int .i64 b, .int .i64 t3, .int .i64 t2]] W fun e w' => e = .returned (moneyV y) ∧ Below W.heap.size W w') := fun W => spec_Instalment t0 t1 b t3 t2 y hI W
  generalize y = m at *
  clear hw hI hb hb13 hs hns
  have HR2 : Hid (cvB m b s 4 T = m) := HR.out
  go_enter Tryz.func4, Tryz.ntmps4
  go_wp2_with fail
  refine (HT.out _).mono ?_
  rintro e w2 ⟨ta, tc, rfl, hb2⟩
  have hbz : Below w.heap.size w w2 := ((Below.refl w.heap.size w).alloc (Nat.le_refl _) _).trans (hb2.mono (by simp))
  have z0 := (hbz.cell (p := ⟨g, _, none⟩) hg).trans x0
  have z1 := (hbz.cell (p := ⟨g, _, none⟩) hg).trans x1
  have z2 := (hbz.cell (p := ⟨g, _, none⟩) hg).trans x2
  have z3 := (hbz.cell (p := ⟨g, _, none⟩) hg).trans x3
  have hg2 : g < w2.heap.size := Nat.lt_of_lt_of_le hg hbz.size
  have HZ2 : Hid (Rz w w2) := HZ.out.next hb2
  have hng : w2.heap.size ≠ g := by omega
  clear hb2 hbz HZ x0 x1 x2 x3
  go_upto_region 16 with fail
  have o0 := HZ2.out.c0
  have o1 := HZ2.out.c1
  have hnw : w2.heap.size ≠ w.heap.size := by have := HZ2.out.lt; omega
  have hgw : g ≠ w.heap.size := by omega
  have hwg : w.heap.size ≠ g := by omega
  go_region_held3 (fun W => W.cell? ⟨g, f + 2, none⟩ = some (.int .i64 t2) ∧ W.cell? ⟨g, f + 3, none⟩ = some (.int .i64 t3)) (go_keep) (first | (go_at_call 11; refine (HQ.out _).mono ?_; rintro e w3 ⟨rfl, hb3⟩; simp only [moneyV]; have hx3 : Below w2.heap.size w2 w3 := (by first | exact hb3 | exact (Below.refl _ _).drew.trans hb3); have u2 := (hx3.cell (p := ⟨g, _, none⟩) hg2).trans z2; have u3 := (hx3.cell (p := ⟨g, _, none⟩) hg2).trans z3; have HZ3 : Hid (Rz w w3) := HZ2.out.next hx3; have v0 := HZ3.out.c0; have v1 := HZ3.out.c1; have vf := HZ3.out.fz; have vl := HZ3.out.lt))
  all_goals
    have HBF : Hid (Below w.heap.size w w3) := HZ3.out.bel
    go_wp2_with fail
    refine bodyPost_ret (v := moneyV m) ?_ rfl ⟨by rw [HR2.out], ?_⟩
    · simp [results, Tryz.results4, go_sem, v0, v1, moneyV]
    · exact (HBF.out.setCell (Nat.le_refl _) _).setCell (Nat.le_refl _) _
set_option linter.unusedVariables false in
set_option maxRecDepth 100000 in
set_option maxHeartbeats 8000000 in
theorem spec_cv_later (y : Int × Int) (b : Int) (s : ByteArray) (n cap : Nat) (a : Option Addr) (T : Nat → Int) (hs : s.size ≤ 20000) (hns : n ≤ 400) (hb : basisB b = true) (hw : s.toList = [108, 97, 116, 101, 114]) (hn : n + 1 = (callT s).length) (hI : InstOf (T 0) (T 1) b (T 3) (T 2) y) (w : World) (h : IntsAt w a n T) :
    Calls Tryz.prog 4 #[.int .i64 b, .string s, .slice a n cap] w fun e w' => e = .returned (moneyV (cvB y b s n T)) ∧ Below w.heap.size w w' := by
  have q0 : decide (20000 < s.size) = false := by simp; omega
  have q1 : decide ((20000 : Int) < (s.size : Int)) = false := by simp; omega
  have r0 : decide (400 < n) = false := by simp; omega
  have r1 : decide ((400 : Int) < (n : Int)) = false := by simp; omega
  have hb13 := (basisB_iff b).1 hb
  have t0 : decide (b < 1) = false := by simp; omega
  have t1 : decide (3 < b) = false := by simp; omega
  obtain ⟨hcb, hct, hcw⟩ := word_later hw
  rw [hct] at hn
  obtain rfl : n = 2 := by simp at hn; omega
  have HR : Hid (cvB y b s 2 T = dayAddB (T 0) (T 1)) := by show _ = _; unfold cvB; rw [if_neg (by rw [hb]; decide), if_neg (by rw [hcb]; decide), if_neg (by rw [hct]; simp), hcw]
  have HZ : Hid (Rz w (w.alloc (.cells #[.int .i64 0, .int .i64 0] 24))) := Rz.new _ _
  have HT : Hid (∀ W, Calls Tryz.prog 9 #[.string s] W fun e w' => ∃ a cap, e = .returned (.slice a 3 cap) ∧ Below W.heap.size W w') := fun W => (spec_callT s W).mono (by rintro e w' ⟨a, cap, rfl, _, _, hb⟩; exact ⟨a, cap, by rw [hct]; rfl, hb⟩)
  rcases h with h0 | ⟨g, f, rfl, hg, hc⟩
  · omega
  have x0 := hc 0 (by omega)
  have x1 := hc 1 (by omega)
  simp only [Nat.add_zero] at x0
  clear hc hcb hct hcw hn
  generalize T 0 = t0 at *
  generalize T 1 = t1 at *
  generalize T 2 = t2 at *
  generalize T 3 = t3 at *
  have k0 : (s.toList == [105, 110, 116, 101, 114, 101, 115, 116]) = false := by rw [hw]; rfl
  have k1 : (s.toList == [105, 110, 115, 116, 97, 108, 109, 101, 110, 116]) = false := by rw [hw]; rfl
  have k2 : (s.toList == [108, 97, 116, 101, 114]) = true := by rw [hw]; rfl
  have HQ : Hid (∀ W, Calls Tryz.prog 13 #[.int .i64 t0, .int .i64 t1] W fun e w' => e = .returned (moneyV (dayAddB t0 t1)) ∧ Below W.heap.size W w') := fun W => spec_dayAdd t0 t1 W
  generalize dayAddB t0 t1 = m at *
  clear hw hI hb hb13 hs hns
  have HR2 : Hid (cvB y b s 2 T = m) := HR.out
  go_enter Tryz.func4, Tryz.ntmps4
  go_wp2_with fail
  refine (HT.out _).mono ?_
  rintro e w2 ⟨ta, tc, rfl, hb2⟩
  have hbz : Below w.heap.size w w2 := ((Below.refl w.heap.size w).alloc (Nat.le_refl _) _).trans (hb2.mono (by simp))
  have z0 := (hbz.cell (p := ⟨g, _, none⟩) hg).trans x0
  have z1 := (hbz.cell (p := ⟨g, _, none⟩) hg).trans x1
  have hg2 : g < w2.heap.size := Nat.lt_of_lt_of_le hg hbz.size
  have HZ2 : Hid (Rz w w2) := HZ.out.next hb2
  have hng : w2.heap.size ≠ g := by omega
  clear hb2 hbz HZ x0 x1
  go_wp2_with fail
  refine (HQ.out _).mono ?_
  rintro e w3 ⟨rfl, hb3⟩
  have HZ3 : Hid (Rz w w3) := HZ2.out.next hb3
  clear hb3
  simp only [moneyV]
  go_wp2_with fail
  refine (spec_day9 m.1 m.2 _).mono ?_
  rintro e w4 ⟨rfl, hb4⟩
  have HZ4 : Hid (Rz w w4) := HZ3.out.next hb4
  clear hb4
  simp only [moneyV]
  have o0 := HZ4.out.c0
  have o1 := HZ4.out.c1
  have of := HZ4.out.fz
  have HBF : Hid (Below w.heap.size w _) := HZ4.out.bel
  go_wp2_with fail
  refine bodyPost_ret (v := moneyV m) ?_ rfl ⟨by rw [HR2.out], ?_⟩
  · simp [results, Tryz.results4, go_sem, o0, o1, moneyV]
  · exact (HBF.out.setCell (Nat.le_refl _) _).setCell (Nat.le_refl _) _
set_option linter.unusedVariables false in
set_option maxRecDepth 100000 in
set_option maxHeartbeats 8000000 in
theorem spec_cv_days (y : Int × Int) (b : Int) (s : ByteArray) (n cap : Nat) (a : Option Addr) (T : Nat → Int) (hs : s.size ≤ 20000) (hns : n ≤ 400) (hb : basisB b = true) (hw : s.toList = [100, 97, 121, 115]) (hn : n + 1 = (callT s).length) (hI : InstOf (T 0) (T 1) b (T 3) (T 2) y) (w : World) (h : IntsAt w a n T) :
    Calls Tryz.prog 4 #[.int .i64 b, .string s, .slice a n cap] w fun e w' => e = .returned (moneyV (cvB y b s n T)) ∧ Below w.heap.size w w' := by
  have q0 : decide (20000 < s.size) = false := by simp; omega
  have q1 : decide ((20000 : Int) < (s.size : Int)) = false := by simp; omega
  have r0 : decide (400 < n) = false := by simp; omega
  have r1 : decide ((400 : Int) < (n : Int)) = false := by simp; omega
  have hb13 := (basisB_iff b).1 hb
  have t0 : decide (b < 1) = false := by simp; omega
  have t1 : decide (3 < b) = false := by simp; omega
  obtain ⟨hcb, hct, hcw⟩ := word_days hw
  rw [hct] at hn
  obtain rfl : n = 2 := by simp at hn; omega
  have HR : Hid (cvB y b s 2 T = daysB (T 0) (T 1)) := by show _ = _; unfold cvB; rw [if_neg (by rw [hb]; decide), if_neg (by rw [hcb]; decide), if_neg (by rw [hct]; simp), hcw]
  have HZ : Hid (Rz w (w.alloc (.cells #[.int .i64 0, .int .i64 0] 24))) := Rz.new _ _
  have HT : Hid (∀ W, Calls Tryz.prog 9 #[.string s] W fun e w' => ∃ a cap, e = .returned (.slice a 3 cap) ∧ Below W.heap.size W w') := fun W => (spec_callT s W).mono (by rintro e w' ⟨a, cap, rfl, _, _, hb⟩; exact ⟨a, cap, by rw [hct]; rfl, hb⟩)
  rcases h with h0 | ⟨g, f, rfl, hg, hc⟩
  · omega
  have x0 := hc 0 (by omega)
  have x1 := hc 1 (by omega)
  simp only [Nat.add_zero] at x0
  clear hc hcb hct hcw hn
  generalize T 0 = t0 at *
  generalize T 1 = t1 at *
  generalize T 2 = t2 at *
  generalize T 3 = t3 at *
  have k0 : (s.toList == [105, 110, 116, 101, 114, 101, 115, 116]) = false := by rw [hw]; rfl
  have k1 : (s.toList == [105, 110, 115, 116, 97, 108, 109, 101, 110, 116]) = false := by rw [hw]; rfl
  have k2 : (s.toList == [108, 97, 116, 101, 114]) = false := by rw [hw]; rfl
  have k3 : (s.toList == [100, 97, 121, 115]) = true := by rw [hw]; rfl
  clear hw hI hb hb13 hs hns
  obtain ⟨qa, ha⟩ : ∃ q, dayRB t0 = q := ⟨_, rfl⟩
  obtain ⟨qb, hq⟩ : ∃ q, dayRB t1 = q := ⟨_, rfl⟩
  cases qa with
  | false =>
    have HR2 : Hid (cvB y b s 2 T = (0, 1)) := by show _ = _; rw [HR.out]; unfold daysB; rw [ha]; rfl
    go_enter Tryz.func4, Tryz.ntmps4
    go_wp2_with fail
    refine (HT.out _).mono ?_
    rintro e w2 ⟨ta, tc, rfl, hb2⟩
    have hbz : Below w.heap.size w w2 := ((Below.refl w.heap.size w).alloc (Nat.le_refl _) _).trans (hb2.mono (by simp))
    have z0 := (hbz.cell (p := ⟨g, _, none⟩) hg).trans x0
    have z1 := (hbz.cell (p := ⟨g, _, none⟩) hg).trans x1
    have hg2 : g < w2.heap.size := Nat.lt_of_lt_of_le hg hbz.size
    have HZ2 : Hid (Rz w w2) := HZ.out.next hb2
    have hng : w2.heap.size ≠ g := by omega
    clear hb2 hbz HZ x0 x1
    go_wp2_with fail
    refine (spec_dayRight _ _).mono ?_
    rintro e w9 ⟨rfl, rfl⟩
    rw [ha]
    have o0 := HZ2.out.c0
    have o1 := HZ2.out.c1
    have of := HZ2.out.fz
    have HBF : Hid (Below w.heap.size w _) := HZ2.out.bel
    go_wp2_with fail
    refine bodyPost_ret (v := moneyV (0, 1)) ?_ rfl ⟨by rw [HR2.out], ?_⟩
    · simp [results, Tryz.results4, go_sem, o0, o1, moneyV]
    · exact (HBF.out.setCell (Nat.le_refl _) _).setCell (Nat.le_refl _) _
  | true =>
    cases qb with
    | false =>
      have HR2 : Hid (cvB y b s 2 T = (0, 1)) := by show _ = _; rw [HR.out]; unfold daysB; rw [ha, hq]; rfl
      go_enter Tryz.func4, Tryz.ntmps4
      go_wp2_with fail
      refine (HT.out _).mono ?_
      rintro e w2 ⟨ta, tc, rfl, hb2⟩
      have hbz : Below w.heap.size w w2 := ((Below.refl w.heap.size w).alloc (Nat.le_refl _) _).trans (hb2.mono (by simp))
      have z0 := (hbz.cell (p := ⟨g, _, none⟩) hg).trans x0
      have z1 := (hbz.cell (p := ⟨g, _, none⟩) hg).trans x1
      have hg2 : g < w2.heap.size := Nat.lt_of_lt_of_le hg hbz.size
      have HZ2 : Hid (Rz w w2) := HZ.out.next hb2
      have hng : w2.heap.size ≠ g := by omega
      clear hb2 hbz HZ x0 x1
      go_wp2_with fail
      refine (spec_dayRight _ _).mono ?_
      rintro e w9 ⟨rfl, rfl⟩
      rw [ha]
      go_wp2_with fail
      refine (spec_dayRight _ _).mono ?_
      rintro e w9 ⟨rfl, rfl⟩
      rw [hq]
      have o0 := HZ2.out.c0
      have o1 := HZ2.out.c1
      have of := HZ2.out.fz
      have HBF : Hid (Below w.heap.size w _) := HZ2.out.bel
      go_wp2_with fail
      refine bodyPost_ret (v := moneyV (0, 1)) ?_ rfl ⟨by rw [HR2.out], ?_⟩
      · simp [results, Tryz.results4, go_sem, o0, o1, moneyV]
      · exact (HBF.out.setCell (Nat.le_refl _) _).setCell (Nat.le_refl _) _
    | true =>
      have HR2 : Hid (cvB y b s 2 T = (t1 - t0, 0)) := by show _ = _; rw [HR.out]; unfold daysB; rw [ha, hq]; rfl
      obtain ⟨a0, a1⟩ : 0 ≤ t0 ∧ t0 ≤ 36524 := by simpa [dayRB] using ha
      obtain ⟨b0, b1⟩ : 0 ≤ t1 ∧ t1 ≤ 36524 := by simpa [dayRB] using hq
      go_enter Tryz.func4, Tryz.ntmps4
      go_wp2_with fail
      refine (HT.out _).mono ?_
      rintro e w2 ⟨ta, tc, rfl, hb2⟩
      have hbz : Below w.heap.size w w2 := ((Below.refl w.heap.size w).alloc (Nat.le_refl _) _).trans (hb2.mono (by simp))
      have z0 := (hbz.cell (p := ⟨g, _, none⟩) hg).trans x0
      have z1 := (hbz.cell (p := ⟨g, _, none⟩) hg).trans x1
      have hg2 : g < w2.heap.size := Nat.lt_of_lt_of_le hg hbz.size
      have HZ2 : Hid (Rz w w2) := HZ.out.next hb2
      have hng : w2.heap.size ≠ g := by omega
      clear hb2 hbz HZ x0 x1
      go_wp2_with fail
      refine (spec_dayRight _ _).mono ?_
      rintro e w9 ⟨rfl, rfl⟩
      rw [ha]
      go_wp2_with fail
      refine (spec_dayRight _ _).mono ?_
      rintro e w9 ⟨rfl, rfl⟩
      rw [hq]
      have o0 := HZ2.out.c0
      have o1 := HZ2.out.c1
      have of := HZ2.out.fz
      have HBF : Hid (Below w.heap.size w _) := HZ2.out.bel
      go_wp2_with fail
      refine bodyPost_ret (v := moneyV (t1 - t0, 0)) ?_ rfl ⟨by rw [HR2.out], ?_⟩
      · simp [results, Tryz.results4, go_sem, o0, o1, moneyV]
      · exact (HBF.out.setCell (Nat.le_refl _) _).setCell (Nat.le_refl _) _
set_option linter.unusedVariables false in
set_option maxRecDepth 100000 in
set_option maxHeartbeats 8000000 in
theorem spec_cv_share (y : Int × Int) (b : Int) (s : ByteArray) (n cap : Nat) (a : Option Addr) (T : Nat → Int) (hs : s.size ≤ 20000) (hns : n ≤ 400) (hb : basisB b = true) (hw : s.toList = [115, 104, 97, 114, 101]) (hn : n + 1 = (callT s).length) (hI : InstOf (T 0) (T 1) b (T 3) (T 2) y) (w : World) (h : IntsAt w a n T) :
    Calls Tryz.prog 4 #[.int .i64 b, .string s, .slice a n cap] w fun e w' => e = .returned (moneyV (cvB y b s n T)) ∧ Below w.heap.size w w' := by
  have q0 : decide (20000 < s.size) = false := by simp; omega
  have q1 : decide ((20000 : Int) < (s.size : Int)) = false := by simp; omega
  have r0 : decide (400 < n) = false := by simp; omega
  have r1 : decide ((400 : Int) < (n : Int)) = false := by simp; omega
  have hb13 := (basisB_iff b).1 hb
  have t0 : decide (b < 1) = false := by simp; omega
  have t1 : decide (3 < b) = false := by simp; omega
  obtain ⟨hcb, hct, hcw⟩ := word_share hw
  rw [hct] at hn
  obtain rfl : n = 2 := by simp at hn; omega
  have HR : Hid (cvB y b s 2 T = shareB (T 0) (T 1)) := by show _ = _; unfold cvB; rw [if_neg (by rw [hb]; decide), if_neg (by rw [hcb]; decide), if_neg (by rw [hct]; simp), hcw]
  have HZ : Hid (Rz w (w.alloc (.cells #[.int .i64 0, .int .i64 0] 24))) := Rz.new _ _
  have HT : Hid (∀ W, Calls Tryz.prog 9 #[.string s] W fun e w' => ∃ a cap, e = .returned (.slice a 3 cap) ∧ Below W.heap.size W w') := fun W => (spec_callT s W).mono (by rintro e w' ⟨a, cap, rfl, _, _, hb⟩; exact ⟨a, cap, by rw [hct]; rfl, hb⟩)
  rcases h with h0 | ⟨g, f, rfl, hg, hc⟩
  · omega
  have x0 := hc 0 (by omega)
  have x1 := hc 1 (by omega)
  simp only [Nat.add_zero] at x0
  clear hc hcb hct hcw hn
  generalize T 0 = t0 at *
  generalize T 1 = t1 at *
  generalize T 2 = t2 at *
  generalize T 3 = t3 at *
  have k0 : (s.toList == [105, 110, 116, 101, 114, 101, 115, 116]) = false := by rw [hw]; rfl
  have k1 : (s.toList == [105, 110, 115, 116, 97, 108, 109, 101, 110, 116]) = false := by rw [hw]; rfl
  have k2 : (s.toList == [108, 97, 116, 101, 114]) = false := by rw [hw]; rfl
  have k3 : (s.toList == [100, 97, 121, 115]) = false := by rw [hw]; rfl
  have k4 : (s.toList == [115, 104, 97, 114, 101]) = true := by rw [hw]; rfl
  clear hw hI hb hb13 hs hns
  obtain ⟨qa, ha⟩ : ∃ q, rateB t1 = q := ⟨_, rfl⟩
  have HQ : Hid (∀ W, Calls Tryz.prog 16 #[.int .i64 t0, .int .i64 t1, .int .i64 1000000] W fun e w' => e = .returned (moneyV (mulDivB t0 t1 1000000)) ∧ Below W.heap.size W w') := fun W => spec_mulDiv t0 t1 1000000 W
  cases qa with
  | false =>
    have HR2 : Hid (cvB y b s 2 T = (0, 1)) := by show _ = _; rw [HR.out]; unfold shareB; rw [ha]; rfl
    go_enter Tryz.func4, Tryz.ntmps4
    go_wp2_with fail
    refine (HT.out _).mono ?_
    rintro e w2 ⟨ta, tc, rfl, hb2⟩
    have hbz : Below w.heap.size w w2 := ((Below.refl w.heap.size w).alloc (Nat.le_refl _) _).trans (hb2.mono (by simp))
    have z0 := (hbz.cell (p := ⟨g, _, none⟩) hg).trans x0
    have z1 := (hbz.cell (p := ⟨g, _, none⟩) hg).trans x1
    have hg2 : g < w2.heap.size := Nat.lt_of_lt_of_le hg hbz.size
    have HZ2 : Hid (Rz w w2) := HZ.out.next hb2
    have hng : w2.heap.size ≠ g := by omega
    clear hb2 hbz HZ x0 x1
    go_wp2_with fail
    refine (spec_rateB _ _).mono ?_
    rintro e w9 ⟨rfl, rfl⟩
    rw [ha]
    have o0 := HZ2.out.c0
    have o1 := HZ2.out.c1
    have of := HZ2.out.fz
    have HBF : Hid (Below w.heap.size w _) := HZ2.out.bel
    go_wp2_with fail
    refine bodyPost_ret (v := moneyV (0, 1)) ?_ rfl ⟨by rw [HR2.out], ?_⟩
    · simp [results, Tryz.results4, go_sem, o0, o1, moneyV]
    · exact (HBF.out.setCell (Nat.le_refl _) _).setCell (Nat.le_refl _) _
  | true =>
    have HR2 : Hid (cvB y b s 2 T = mulDivB t0 t1 1000000) := by show _ = _; rw [HR.out]; unfold shareB; rw [ha]; rfl
    clear HR
    generalize mulDivB t0 t1 1000000 = m at *
    go_enter Tryz.func4, Tryz.ntmps4
    go_wp2_with fail
    refine (HT.out _).mono ?_
    rintro e w2 ⟨ta, tc, rfl, hb2⟩
    have hbz : Below w.heap.size w w2 := ((Below.refl w.heap.size w).alloc (Nat.le_refl _) _).trans (hb2.mono (by simp))
    have z0 := (hbz.cell (p := ⟨g, _, none⟩) hg).trans x0
    have z1 := (hbz.cell (p := ⟨g, _, none⟩) hg).trans x1
    have hg2 : g < w2.heap.size := Nat.lt_of_lt_of_le hg hbz.size
    have HZ2 : Hid (Rz w w2) := HZ.out.next hb2
    have hng : w2.heap.size ≠ g := by omega
    clear hb2 hbz HZ x0 x1
    go_wp2_with fail
    refine (spec_rateB _ _).mono ?_
    rintro e w9 ⟨rfl, rfl⟩
    rw [ha]
    go_wp2_with fail
    refine (HQ.out _).mono ?_
    rintro e w3 ⟨rfl, hb3⟩
    have HZ3 : Hid (Rz w w3) := HZ2.out.next hb3
    clear hb3
    simp only [moneyV]
    have o0 := HZ3.out.c0
    have o1 := HZ3.out.c1
    have of := HZ3.out.fz
    have HBF : Hid (Below w.heap.size w _) := HZ3.out.bel
    go_wp2_with fail
    refine bodyPost_ret (v := moneyV m) ?_ rfl ⟨by rw [HR2.out], ?_⟩
    · simp [results, Tryz.results4, go_sem, o0, o1, moneyV]
    · exact (HBF.out.setCell (Nat.le_refl _) _).setCell (Nat.le_refl _) _
set_option linter.unusedVariables false in
set_option maxRecDepth 100000 in
set_option maxHeartbeats 8000000 in
theorem spec_cv_least (y : Int × Int) (b : Int) (s : ByteArray) (n cap : Nat) (a : Option Addr) (T : Nat → Int) (hs : s.size ≤ 20000) (hns : n ≤ 400) (hb : basisB b = true) (hw : s.toList = [108, 101, 97, 115, 116]) (hn : n + 1 = (callT s).length) (hI : InstOf (T 0) (T 1) b (T 3) (T 2) y) (w : World) (h : IntsAt w a n T) :
    Calls Tryz.prog 4 #[.int .i64 b, .string s, .slice a n cap] w fun e w' => e = .returned (moneyV (cvB y b s n T)) ∧ Below w.heap.size w w' := by
  have q0 : decide (20000 < s.size) = false := by simp; omega
  have q1 : decide ((20000 : Int) < (s.size : Int)) = false := by simp; omega
  have r0 : decide (400 < n) = false := by simp; omega
  have r1 : decide ((400 : Int) < (n : Int)) = false := by simp; omega
  have hb13 := (basisB_iff b).1 hb
  have t0 : decide (b < 1) = false := by simp; omega
  have t1 : decide (3 < b) = false := by simp; omega
  obtain ⟨hcb, hct, hcw⟩ := word_least hw
  rw [hct] at hn
  obtain rfl : n = 2 := by simp at hn; omega
  have HR : Hid (cvB y b s 2 T = minB (T 0) (T 1)) := by show _ = _; unfold cvB; rw [if_neg (by rw [hb]; decide), if_neg (by rw [hcb]; decide), if_neg (by rw [hct]; simp), hcw]
  have HZ : Hid (Rz w (w.alloc (.cells #[.int .i64 0, .int .i64 0] 24))) := Rz.new _ _
  have HT : Hid (∀ W, Calls Tryz.prog 9 #[.string s] W fun e w' => ∃ a cap, e = .returned (.slice a 3 cap) ∧ Below W.heap.size W w') := fun W => (spec_callT s W).mono (by rintro e w' ⟨a, cap, rfl, _, _, hb⟩; exact ⟨a, cap, by rw [hct]; rfl, hb⟩)
  rcases h with h0 | ⟨g, f, rfl, hg, hc⟩
  · omega
  have x0 := hc 0 (by omega)
  have x1 := hc 1 (by omega)
  simp only [Nat.add_zero] at x0
  clear hc hcb hct hcw hn
  generalize T 0 = t0 at *
  generalize T 1 = t1 at *
  generalize T 2 = t2 at *
  generalize T 3 = t3 at *
  have k0 : (s.toList == [105, 110, 116, 101, 114, 101, 115, 116]) = false := by rw [hw]; rfl
  have k1 : (s.toList == [105, 110, 115, 116, 97, 108, 109, 101, 110, 116]) = false := by rw [hw]; rfl
  have k2 : (s.toList == [108, 97, 116, 101, 114]) = false := by rw [hw]; rfl
  have k3 : (s.toList == [100, 97, 121, 115]) = false := by rw [hw]; rfl
  have k4 : (s.toList == [115, 104, 97, 114, 101]) = false := by rw [hw]; rfl
  have k5 : (s.toList == [108, 101, 97, 115, 116]) = true := by rw [hw]; rfl
  clear hw hI hb hb13 hs hns
  obtain ⟨qa, ha⟩ : ∃ q, rightB t0 = q := ⟨_, rfl⟩
  obtain ⟨qb, hq⟩ : ∃ q, rightB t1 = q := ⟨_, rfl⟩
  cases qa with
  | false =>
    have HR2 : Hid (cvB y b s 2 T = (0, 1)) := by show _ = _; rw [HR.out]; unfold minB; rw [ha]; rfl
    clear HR
    go_enter Tryz.func4, Tryz.ntmps4
    go_wp2_with fail
    refine (HT.out _).mono ?_
    rintro e w2 ⟨ta, tc, rfl, hb2⟩
    have hbz : Below w.heap.size w w2 := ((Below.refl w.heap.size w).alloc (Nat.le_refl _) _).trans (hb2.mono (by simp))
    have z0 := (hbz.cell (p := ⟨g, _, none⟩) hg).trans x0
    have z1 := (hbz.cell (p := ⟨g, _, none⟩) hg).trans x1
    have hg2 : g < w2.heap.size := Nat.lt_of_lt_of_le hg hbz.size
    have HZ2 : Hid (Rz w w2) := HZ.out.next hb2
    have hng : w2.heap.size ≠ g := by omega
    clear hb2 hbz HZ x0 x1
    go_wp2_with fail
    refine (spec_right _ _).mono ?_
    rintro e w9 ⟨rfl, rfl⟩
    rw [ha]
    have o0 := HZ2.out.c0
    have o1 := HZ2.out.c1
    have of := HZ2.out.fz
    have HBF : Hid (Below w.heap.size w _) := HZ2.out.bel
    go_wp2_with fail
    refine bodyPost_ret (v := moneyV (0, 1)) ?_ rfl ⟨by rw [HR2.out], ?_⟩
    · simp [results, Tryz.results4, go_sem, o0, o1, moneyV]
    · exact (HBF.out.setCell (Nat.le_refl _) _).setCell (Nat.le_refl _) _
  | true =>
    cases qb with
    | false =>
      have HR2 : Hid (cvB y b s 2 T = (0, 1)) := by show _ = _; rw [HR.out]; unfold minB; rw [ha, hq]; rfl
      clear HR
      go_enter Tryz.func4, Tryz.ntmps4
      go_wp2_with fail
      refine (HT.out _).mono ?_
      rintro e w2 ⟨ta, tc, rfl, hb2⟩
      have hbz : Below w.heap.size w w2 := ((Below.refl w.heap.size w).alloc (Nat.le_refl _) _).trans (hb2.mono (by simp))
      have z0 := (hbz.cell (p := ⟨g, _, none⟩) hg).trans x0
      have z1 := (hbz.cell (p := ⟨g, _, none⟩) hg).trans x1
      have hg2 : g < w2.heap.size := Nat.lt_of_lt_of_le hg hbz.size
      have HZ2 : Hid (Rz w w2) := HZ.out.next hb2
      have hng : w2.heap.size ≠ g := by omega
      clear hb2 hbz HZ x0 x1
      go_wp2_with fail
      refine (spec_right _ _).mono ?_
      rintro e w9 ⟨rfl, rfl⟩
      rw [ha]
      go_wp2_with fail
      refine (spec_right _ _).mono ?_
      rintro e w9 ⟨rfl, rfl⟩
      rw [hq]
      have o0 := HZ2.out.c0
      have o1 := HZ2.out.c1
      have of := HZ2.out.fz
      have HBF : Hid (Below w.heap.size w _) := HZ2.out.bel
      go_wp2_with fail
      refine bodyPost_ret (v := moneyV (0, 1)) ?_ rfl ⟨by rw [HR2.out], ?_⟩
      · simp [results, Tryz.results4, go_sem, o0, o1, moneyV]
      · exact (HBF.out.setCell (Nat.le_refl _) _).setCell (Nat.le_refl _) _
    | true =>
      have HR2 : Hid (cvB y b s 2 T = (min t0 t1, 0)) := by show _ = _; rw [HR.out]; unfold minB; rw [ha, hq]; rfl
      clear HR
      go_enter Tryz.func4, Tryz.ntmps4
      go_wp2_with fail
      refine (HT.out _).mono ?_
      rintro e w2 ⟨ta, tc, rfl, hb2⟩
      have hbz : Below w.heap.size w w2 := ((Below.refl w.heap.size w).alloc (Nat.le_refl _) _).trans (hb2.mono (by simp))
      have z0 := (hbz.cell (p := ⟨g, _, none⟩) hg).trans x0
      have z1 := (hbz.cell (p := ⟨g, _, none⟩) hg).trans x1
      have hg2 : g < w2.heap.size := Nat.lt_of_lt_of_le hg hbz.size
      have HZ2 : Hid (Rz w w2) := HZ.out.next hb2
      have hng : w2.heap.size ≠ g := by omega
      clear hb2 hbz HZ x0 x1
      go_wp2_with fail
      refine (spec_right _ _).mono ?_
      rintro e w9 ⟨rfl, rfl⟩
      rw [ha]
      go_wp2_with fail
      refine (spec_right _ _).mono ?_
      rintro e w9 ⟨rfl, rfl⟩
      rw [hq]
      go_wp2_with fail
      refine (spec_min _ _ _).mono ?_
      rintro e w9 ⟨rfl, rfl⟩
      have o0 := HZ2.out.c0
      have o1 := HZ2.out.c1
      have of := HZ2.out.fz
      have HBF : Hid (Below w.heap.size w _) := HZ2.out.bel
      go_wp2_with fail
      refine bodyPost_ret (v := moneyV (min t0 t1, 0)) ?_ rfl ⟨by rw [HR2.out], ?_⟩
      · simp [results, Tryz.results4, go_sem, o0, o1, moneyV]
      · exact (HBF.out.setCell (Nat.le_refl _) _).setCell (Nat.le_refl _) _
set_option linter.unusedVariables false in
set_option maxRecDepth 100000 in
set_option maxHeartbeats 8000000 in
theorem spec_cv_most (y : Int × Int) (b : Int) (s : ByteArray) (n cap : Nat) (a : Option Addr) (T : Nat → Int) (hs : s.size ≤ 20000) (hns : n ≤ 400) (hb : basisB b = true) (hw : s.toList = [109, 111, 115, 116]) (hn : n + 1 = (callT s).length) (hI : InstOf (T 0) (T 1) b (T 3) (T 2) y) (w : World) (h : IntsAt w a n T) :
    Calls Tryz.prog 4 #[.int .i64 b, .string s, .slice a n cap] w fun e w' => e = .returned (moneyV (cvB y b s n T)) ∧ Below w.heap.size w w' := by
  have q0 : decide (20000 < s.size) = false := by simp; omega
  have q1 : decide ((20000 : Int) < (s.size : Int)) = false := by simp; omega
  have r0 : decide (400 < n) = false := by simp; omega
  have r1 : decide ((400 : Int) < (n : Int)) = false := by simp; omega
  have hb13 := (basisB_iff b).1 hb
  have t0 : decide (b < 1) = false := by simp; omega
  have t1 : decide (3 < b) = false := by simp; omega
  obtain ⟨hcb, hct, hcw⟩ := word_most hw
  rw [hct] at hn
  obtain rfl : n = 2 := by simp at hn; omega
  have HR : Hid (cvB y b s 2 T = maxB (T 0) (T 1)) := by show _ = _; unfold cvB; rw [if_neg (by rw [hb]; decide), if_neg (by rw [hcb]; decide), if_neg (by rw [hct]; simp), hcw]
  have HZ : Hid (Rz w (w.alloc (.cells #[.int .i64 0, .int .i64 0] 24))) := Rz.new _ _
  have HT : Hid (∀ W, Calls Tryz.prog 9 #[.string s] W fun e w' => ∃ a cap, e = .returned (.slice a 3 cap) ∧ Below W.heap.size W w') := fun W => (spec_callT s W).mono (by rintro e w' ⟨a, cap, rfl, _, _, hb⟩; exact ⟨a, cap, by rw [hct]; rfl, hb⟩)
  rcases h with h0 | ⟨g, f, rfl, hg, hc⟩
  · omega
  have x0 := hc 0 (by omega)
  have x1 := hc 1 (by omega)
  simp only [Nat.add_zero] at x0
  clear hc hcb hct hcw hn
  generalize T 0 = t0 at *
  generalize T 1 = t1 at *
  generalize T 2 = t2 at *
  generalize T 3 = t3 at *
  have k0 : (s.toList == [105, 110, 116, 101, 114, 101, 115, 116]) = false := by rw [hw]; rfl
  have k1 : (s.toList == [105, 110, 115, 116, 97, 108, 109, 101, 110, 116]) = false := by rw [hw]; rfl
  have k2 : (s.toList == [108, 97, 116, 101, 114]) = false := by rw [hw]; rfl
  have k3 : (s.toList == [100, 97, 121, 115]) = false := by rw [hw]; rfl
  have k4 : (s.toList == [115, 104, 97, 114, 101]) = false := by rw [hw]; rfl
  have k5 : (s.toList == [108, 101, 97, 115, 116]) = false := by rw [hw]; rfl
  clear hw hI hb hb13 hs hns
  obtain ⟨qa, ha⟩ : ∃ q, rightB t0 = q := ⟨_, rfl⟩
  obtain ⟨qb, hq⟩ : ∃ q, rightB t1 = q := ⟨_, rfl⟩
  cases qa with
  | false =>
    have HR2 : Hid (cvB y b s 2 T = (0, 1)) := by show _ = _; rw [HR.out]; unfold maxB; rw [ha]; rfl
    clear HR
    go_enter Tryz.func4, Tryz.ntmps4
    go_wp2_with fail
    refine (HT.out _).mono ?_
    rintro e w2 ⟨ta, tc, rfl, hb2⟩
    have hbz : Below w.heap.size w w2 := ((Below.refl w.heap.size w).alloc (Nat.le_refl _) _).trans (hb2.mono (by simp))
    have z0 := (hbz.cell (p := ⟨g, _, none⟩) hg).trans x0
    have z1 := (hbz.cell (p := ⟨g, _, none⟩) hg).trans x1
    have hg2 : g < w2.heap.size := Nat.lt_of_lt_of_le hg hbz.size
    have HZ2 : Hid (Rz w w2) := HZ.out.next hb2
    have hng : w2.heap.size ≠ g := by omega
    clear hb2 hbz HZ x0 x1
    go_wp2_with fail
    refine (spec_right _ _).mono ?_
    rintro e w9 ⟨rfl, rfl⟩
    rw [ha]
    have o0 := HZ2.out.c0
    have o1 := HZ2.out.c1
    have of := HZ2.out.fz
    have HBF : Hid (Below w.heap.size w _) := HZ2.out.bel
    go_wp2_with fail
    refine bodyPost_ret (v := moneyV (0, 1)) ?_ rfl ⟨by rw [HR2.out], ?_⟩
    · simp [results, Tryz.results4, go_sem, o0, o1, moneyV]
    · exact (HBF.out.setCell (Nat.le_refl _) _).setCell (Nat.le_refl _) _
  | true =>
    cases qb with
    | false =>
      have HR2 : Hid (cvB y b s 2 T = (0, 1)) := by show _ = _; rw [HR.out]; unfold maxB; rw [ha, hq]; rfl
      clear HR
      go_enter Tryz.func4, Tryz.ntmps4
      go_wp2_with fail
      refine (HT.out _).mono ?_
      rintro e w2 ⟨ta, tc, rfl, hb2⟩
      have hbz : Below w.heap.size w w2 := ((Below.refl w.heap.size w).alloc (Nat.le_refl _) _).trans (hb2.mono (by simp))
      have z0 := (hbz.cell (p := ⟨g, _, none⟩) hg).trans x0
      have z1 := (hbz.cell (p := ⟨g, _, none⟩) hg).trans x1
      have hg2 : g < w2.heap.size := Nat.lt_of_lt_of_le hg hbz.size
      have HZ2 : Hid (Rz w w2) := HZ.out.next hb2
      have hng : w2.heap.size ≠ g := by omega
      clear hb2 hbz HZ x0 x1
      go_wp2_with fail
      refine (spec_right _ _).mono ?_
      rintro e w9 ⟨rfl, rfl⟩
      rw [ha]
      go_wp2_with fail
      refine (spec_right _ _).mono ?_
      rintro e w9 ⟨rfl, rfl⟩
      rw [hq]
      have o0 := HZ2.out.c0
      have o1 := HZ2.out.c1
      have of := HZ2.out.fz
      have HBF : Hid (Below w.heap.size w _) := HZ2.out.bel
      go_wp2_with fail
      refine bodyPost_ret (v := moneyV (0, 1)) ?_ rfl ⟨by rw [HR2.out], ?_⟩
      · simp [results, Tryz.results4, go_sem, o0, o1, moneyV]
      · exact (HBF.out.setCell (Nat.le_refl _) _).setCell (Nat.le_refl _) _
    | true =>
      have HR2 : Hid (cvB y b s 2 T = (max t0 t1, 0)) := by show _ = _; rw [HR.out]; unfold maxB; rw [ha, hq]; rfl
      clear HR
      go_enter Tryz.func4, Tryz.ntmps4
      go_wp2_with fail
      refine (HT.out _).mono ?_
      rintro e w2 ⟨ta, tc, rfl, hb2⟩
      have hbz : Below w.heap.size w w2 := ((Below.refl w.heap.size w).alloc (Nat.le_refl _) _).trans (hb2.mono (by simp))
      have z0 := (hbz.cell (p := ⟨g, _, none⟩) hg).trans x0
      have z1 := (hbz.cell (p := ⟨g, _, none⟩) hg).trans x1
      have hg2 : g < w2.heap.size := Nat.lt_of_lt_of_le hg hbz.size
      have HZ2 : Hid (Rz w w2) := HZ.out.next hb2
      have hng : w2.heap.size ≠ g := by omega
      clear hb2 hbz HZ x0 x1
      go_wp2_with fail
      refine (spec_right _ _).mono ?_
      rintro e w9 ⟨rfl, rfl⟩
      rw [ha]
      go_wp2_with fail
      refine (spec_right _ _).mono ?_
      rintro e w9 ⟨rfl, rfl⟩
      rw [hq]
      go_wp2_with fail
      refine (spec_max9 _ _ _).mono ?_
      rintro e w9 ⟨rfl, rfl⟩
      have o0 := HZ2.out.c0
      have o1 := HZ2.out.c1
      have of := HZ2.out.fz
      have HBF : Hid (Below w.heap.size w _) := HZ2.out.bel
      go_wp2_with fail
      refine bodyPost_ret (v := moneyV (max t0 t1, 0)) ?_ rfl ⟨by rw [HR2.out], ?_⟩
      · simp [results, Tryz.results4, go_sem, o0, o1, moneyV]
      · exact (HBF.out.setCell (Nat.le_refl _) _).setCell (Nat.le_refl _) _
theorem spec_cvB (y : Int × Int) (b : Int) (s : ByteArray) (n cap : Nat) (a : Option Addr) (T : Nat → Int) (hs : s.size ≤ 20000) (hns : n ≤ 400) (hI : InstOf (T 0) (T 1) b (T 3) (T 2) y) (w : World) (h : IntsAt w a n T) :
    Calls Tryz.prog 4 #[.int .i64 b, .string s, .slice a n cap] w fun e w' => e = .returned (moneyV (cvB y b s n T)) ∧ Below w.heap.size w w' := by
  cases hb : basisB b with
  | false => exact spec_cv_basis y b s n cap a T hs hns hb w
  | true =>
    cases hc : callB s with
    | false => exact spec_cv_name y b s n cap a T hs hns hb hc w
    | true =>
      by_cases hn : n + 1 = (callT s).length
      · rcases word_yes hc with hw | hw | hw | hw | hw | hw | hw
        · exact spec_cv_interest y b s n cap a T hs hns hb hw hn hI w h
        · exact spec_cv_instalment y b s n cap a T hs hns hb hw hn hI w h
        · exact spec_cv_later y b s n cap a T hs hns hb hw hn hI w h
        · exact spec_cv_days y b s n cap a T hs hns hb hw hn hI w h
        · exact spec_cv_least y b s n cap a T hs hns hb hw hn hI w h
        · exact spec_cv_most y b s n cap a T hs hns hb hw hn hI w h
        · exact spec_cv_share y b s n cap a T hs hns hb hw hn hI w h
      · refine spec_cv_count y b s n cap a T hs hns hb hc hn ?_ w
        rcases word_yes hc with hw | hw | hw | hw | hw | hw | hw
        · rw [(word_interest hw).2.1]; decide
        · rw [(word_instalment hw).2.1]; decide
        · rw [(word_later hw).2.1]; decide
        · rw [(word_days hw).2.1]; decide
        · rw [(word_least hw).2.1]; decide
        · rw [(word_most hw).2.1]; decide
        · rw [(word_share hw).2.1]; decide
set_option maxRecDepth 100000 in
set_option maxHeartbeats 8000000 in
theorem spec_cvV (y : Int × Int) (b : Int) (s : ByteArray) (n cap : Nat) (a : Option Addr) (T : Nat → Int) (hI : InstOf (T 0) (T 1) b (T 3) (T 2) y) (w : World) (h : IntsAt w a n T) :
    Calls Tryz.prog 4 #[.int .i64 b, .string s, .slice a n cap] w fun e w' => e = .returned (moneyV (cvV y b s n T)) ∧ Below w.heap.size w w' := by
  by_cases h2 : 20000 < s.size ∨ 400 < n
  · have HR : Hid (cvV y b s n T = (0, 2)) := by show _ = _; unfold cvV; rw [if_pos h2]
    by_cases h1 : 20000 < s.size
    · have q0 : decide (20000 < s.size) = true := by simpa using h1
      have q1 : decide ((20000 : Int) < (s.size : Int)) = true := by simp; omega
      go_enter Tryz.func4, Tryz.ntmps4
      go_wp2_with fail
      refine bodyPost_ret (v := moneyV (0, 2)) ?_ rfl ⟨by rw [HR.out], ?_⟩
      · simp [results, Tryz.results4, go_sem, moneyV]
      · repeat (first | exact Below.refl _ _ | refine Below.setCell ?_ (by exact Nat.le_refl _) _ | refine Below.alloc ?_ (by simp) _)
    · have h3 : 400 < n := by omega
      have q0 : decide (20000 < s.size) = false := by simpa using h1
      have q1 : decide ((20000 : Int) < (s.size : Int)) = false := by simp; omega
      have r0 : decide (400 < n) = true := by simpa using h3
      have r1 : decide ((400 : Int) < (n : Int)) = true := by simp; omega
      go_enter Tryz.func4, Tryz.ntmps4
      go_wp2_with fail
      refine bodyPost_ret (v := moneyV (0, 2)) ?_ rfl ⟨by rw [HR.out], ?_⟩
      · simp [results, Tryz.results4, go_sem, moneyV]
      · repeat (first | exact Below.refl _ _ | refine Below.setCell ?_ (by exact Nat.le_refl _) _ | refine Below.alloc ?_ (by simp) _)
  have HE : cvV y b s n T = cvB y b s n T := by unfold cvV; rw [if_neg h2]
  rw [HE]
  exact spec_cvB y b s n cap a T (by omega) (by omega) hI w h
end Go.Proofs.YtnefcldjigndgaaGreatDoor
