/- What functions come to: the program. -/
import Derived.Test.YtnefcldjigndgaaGreatDoorCvA
import Derived.Deep.RegionHeld3
namespace Go.Proofs.YtnefcldjigndgaaGreatDoor
open Go.RowKit
open Go.Proofs.YtnefcldjigndgaaGreatDoor.Draw

set_option maxRecDepth 100000 in
set_option maxHeartbeats 8000000 in
theorem impl_cv_basis (y : Int × Int) (b : Int) (s : ByteArray) (n cap : Nat) (a : Option Addr) (T : Nat → Int) (hb : basisB b = false) (w : World) :
    Calls Tryz.prog 21 #[.int .i64 b, .string s, .slice a n cap] w fun e w' => e = .returned (tupV (cvB y b s n T)) ∧ Below w.heap.size w w' := by
  have HR : Hid (cvB y b s n T = (0, 1)) := by show _ = _; unfold cvB; rw [if_pos hb]
  have HBF : Hid (Below w.heap.size w w) := Below.refl _ _
  go_enter Tryz.func21, Tryz.ntmps21
  go_wp2_with fail
  refine (impl_basisRight _ _).mono ?_
  rintro e w1 ⟨rfl, rfl⟩
  rw [hb]
  go_wp2_with fail
  go_ret2
  refine ⟨?_, HBF.out⟩
  rw [HR.out, tupV_err _ _ (by decide)]; rfl
set_option maxRecDepth 100000 in
set_option maxHeartbeats 8000000 in
theorem impl_cv_name (y : Int × Int) (b : Int) (s : ByteArray) (n cap : Nat) (a : Option Addr) (T : Nat → Int) (hb : basisB b = true) (hc : callB s = false) (w : World) (hF : FunW w) :
    Calls Tryz.prog 21 #[.int .i64 b, .string s, .slice a n cap] w fun e w' => e = .returned (tupV (cvB y b s n T)) ∧ Below w.heap.size w w' := by
  have HFW : Hid (FunW w) := hF
  clear hF
  have HR : Hid (cvB y b s n T = (0, 6)) := by show _ = _; unfold cvB; rw [if_neg (by rw [hb]; decide), if_pos hc]
  have HBF : Hid (Below w.heap.size w w) := Below.refl _ _
  have HC : Hid (callB s = false) := hc
  clear hc
  go_enter Tryz.func21, Tryz.ntmps21
  go_wp2_with fail
  refine (impl_basisRight _ _).mono ?_
  rintro e w1 ⟨rfl, rfl⟩
  rw [hb]
  go_wp2_with fail
  refine (impl_call _ _ HFW.out).mono ?_
  rintro e w1 ⟨rfl, rfl⟩
  rw [HC.out]
  go_wp2_with fail
  go_ret2
  refine ⟨?_, HBF.out⟩
  rw [HR.out, tupV_err _ _ (by decide)]; rfl
set_option maxRecDepth 100000 in
set_option maxHeartbeats 8000000 in
theorem impl_cv_count (y : Int × Int) (b : Int) (s : ByteArray) (n cap : Nat) (a : Option Addr) (T : Nat → Int) (hb : basisB b = true) (hc : callB s = true) (hn : n + 1 ≠ (callT s).length) (hpos : 1 ≤ (callT s).length) (w : World) (hF : FunW w) :
    Calls Tryz.prog 21 #[.int .i64 b, .string s, .slice a n cap] w fun e w' => e = .returned (tupV (cvB y b s n T)) ∧ Below w.heap.size w w' := by
  have HFW : Hid (FunW w) := hF
  clear hF
  have HR : Hid (cvB y b s n T = (0, 1)) := by show _ = _; unfold cvB; rw [if_neg (by rw [hb]; decide), if_neg (by rw [hc]; decide), if_pos hn]
  have HC : Hid (callB s = true) := hc
  have hm5 := callT_len s
  have HT : Hid (∀ W, Calls Tryz.prog 36 #[.string s] W fun e w' => ∃ a cap, e = .returned (.slice a (callT s).length cap) ∧ Below W.heap.size W w') := fun W => (impl_callT s W).mono (by rintro e w' ⟨a, cap, rfl, _, _, hb⟩; exact ⟨a, cap, rfl, hb⟩)
  generalize (callT s).length = m at *
  have q0 : ((n : Int) != (m : Int) - 1) = true := by simp; omega
  clear hc hn
  go_enter Tryz.func21, Tryz.ntmps21
  go_wp2_with fail
  refine (impl_basisRight _ _).mono ?_
  rintro e w1 ⟨rfl, rfl⟩
  rw [hb]
  go_wp2_with fail
  refine (impl_call _ _ HFW.out).mono ?_
  rintro e w1 ⟨rfl, rfl⟩
  rw [HC.out]
  go_wp2_with fail
  refine (HT.out _).mono ?_
  rintro e w2 ⟨ta, tc, rfl, hb2⟩
  have HBF : Hid (Below w1.heap.size w1 w2) := hb2
  clear hb2
  go_wp2_with fail
  go_ret2
  refine ⟨?_, HBF.out⟩
  rw [HR.out, tupV_err _ _ (by decide)]; rfl
set_option linter.unusedVariables false in
set_option maxRecDepth 100000 in
set_option maxHeartbeats 8000000 in
theorem impl_cv_interest (y : Int × Int) (b : Int) (s : ByteArray) (n cap : Nat) (a : Option Addr) (T : Nat → Int) (hb : basisB b = true) (hw : s.toList = [105, 110, 116, 101, 114, 101, 115, 116]) (hn : n + 1 = (callT s).length) (hI : InstOf (T 0) (T 1) b (T 3) (T 2) y) (w : World) (hF : FunW w) (hM : Mon w) (hL : Lay w) (h : IntsAt w a n T) :
    Calls Tryz.prog 21 #[.int .i64 b, .string s, .slice a n cap] w fun e w' => e = .returned (tupV (cvB y b s n T)) ∧ Below w.heap.size w w' := by
  have HFW : Hid (FunW w) := hF
  clear hF
  obtain ⟨hcb, hct, hcw⟩ := word_interest hw
  rw [hct] at hn
  obtain rfl : n = 4 := by simp at hn; omega
  have HR : Hid (cvB y b s 4 T = interestB (T 0) (T 1) b (T 2) (T 3)) := by show _ = _; unfold cvB; rw [if_neg (by rw [hb]; decide), if_neg (by rw [hcb]; decide), if_neg (by rw [hct]; simp), hcw]
  have HC : Hid (callB s = true) := hcb
  have HT : Hid (∀ W, Calls Tryz.prog 36 #[.string s] W fun e w' => ∃ a cap, e = .returned (.slice a 5 cap) ∧ Below W.heap.size W w') := fun W => (impl_callT s W).mono (by rintro e w' ⟨a, cap, rfl, _, _, hb⟩; exact ⟨a, cap, by rw [hct]; rfl, hb⟩)
  rcases h with h0 | ⟨g, f, rfl, hg, hc⟩
  · omega
  have x0 := hc 0 (by omega)
  have x1 := hc 1 (by omega)
  have x2 := hc 2 (by omega)
  have x3 := hc 3 (by omega)
  simp only [Nat.add_zero] at x0
  clear hc hcb hct hcw hn
  generalize T 0 = t0 at *
  generalize T 1 = t1 at *
  generalize T 2 = t2 at *
  generalize T 3 = t3 at *
  have HQ : Hid (∀ W, Below w.heap.size w W → Calls Tryz.prog 37 #[.int .i64 t0, .int .i64 t1, .int .i64 b, .int .i64 t2, .int .i64 t3] W fun e w' => e = .returned (tupV (interestB t0 t1 b t2 t3)) ∧ Below W.heap.size W w') := fun W hW => impl_interest t0 t1 b t2 t3 W (hM.below hW)
  have k0 : (s.toList == [105, 110, 116, 101, 114, 101, 115, 116]) = true := by rw [hw]; rfl
  have HW : Hid (s.toList = [105, 110, 116, 101, 114, 101, 115, 116]) := hw
  clear hw hI hM hL
  generalize interestB t0 t1 b t2 t3 = m at *
  go_enter Tryz.func21, Tryz.ntmps21
  go_wp2_with fail
  refine (impl_basisRight _ _).mono ?_
  rintro e w1 ⟨rfl, rfl⟩
  rw [hb]
  go_wp2_with fail
  refine (impl_call _ _ HFW.out).mono ?_
  rintro e w1 ⟨rfl, rfl⟩
  rw [HC.out]
  go_wp2_with fail
  refine (HT.out _).mono ?_
  rintro e w2 ⟨ta, tc, rfl, hb2⟩
  have z0 := (hb2.cell (p := ⟨g, _, none⟩) hg).trans x0
  have z1 := (hb2.cell (p := ⟨g, _, none⟩) hg).trans x1
  have z2 := (hb2.cell (p := ⟨g, _, none⟩) hg).trans x2
  have z3 := (hb2.cell (p := ⟨g, _, none⟩) hg).trans x3
  have hg2 : g < w2.heap.size := Nat.lt_of_lt_of_le hg hb2.size
  have HB2 : Hid (Below w1.heap.size w1 w2) := hb2
  have hng : w2.heap.size ≠ g := by omega
  clear hb2 x0 x1 x2 x3
  go_upto_region 9 with fail
  go_region_held3 (fun W => W.cell? ⟨g, f, none⟩ = some (.int .i64 t0) ∧ W.cell? ⟨g, f + 1, none⟩ = some (.int .i64 t1) ∧ W.cell? ⟨g, f + 2, none⟩ = some (.int .i64 t2) ∧ W.cell? ⟨g, f + 3, none⟩ = some (.int .i64 t3)) (go_keep) (first | (go_at_call 37; refine (HQ.out _ (by first | exact HB2.out | exact HB2.out.drew)).mono ?_; rintro e w3 ⟨rfl, hb3⟩; simp only [tupV]; have hx3 : Below w2.heap.size w2 w3 := (by first | exact hb3 | exact (Below.refl _ _).drew.trans hb3); have u0 := (hx3.cell (p := ⟨g, _, none⟩) hg2).trans z0; have u1 := (hx3.cell (p := ⟨g, _, none⟩) hg2).trans z1; have u2 := (hx3.cell (p := ⟨g, _, none⟩) hg2).trans z2; have u3 := (hx3.cell (p := ⟨g, _, none⟩) hg2).trans z3))
  all_goals
    have HBF : Hid (Below w1.heap.size w1 w3) := HB2.out.trans (hx3.mono HB2.out.size)
    go_wp2_with fail
    go_ret2
    refine ⟨?_, HBF.out⟩
    rw [HR.out]
    rfl
set_option linter.unusedVariables false in
set_option maxRecDepth 100000 in
set_option maxHeartbeats 8000000 in
theorem impl_cv_instalment (y : Int × Int) (b : Int) (s : ByteArray) (n cap : Nat) (a : Option Addr) (T : Nat → Int) (hb : basisB b = true) (hw : s.toList = [105, 110, 115, 116, 97, 108, 109, 101, 110, 116]) (hn : n + 1 = (callT s).length) (hI : InstOf (T 0) (T 1) b (T 3) (T 2) y) (w : World) (hF : FunW w) (hM : Mon w) (hL : Lay w) (h : IntsAt w a n T) :
    Calls Tryz.prog 21 #[.int .i64 b, .string s, .slice a n cap] w fun e w' => e = .returned (tupV (cvB y b s n T)) ∧ Below w.heap.size w w' := by
  have HFW : Hid (FunW w) := hF
  clear hF
  obtain ⟨hcb, hct, hcw⟩ := word_instalment hw
  rw [hct] at hn
  obtain rfl : n = 4 := by simp at hn; omega
  have HR : Hid (cvB y b s 4 T = y) := by show _ = _; unfold cvB; rw [if_neg (by rw [hb]; decide), if_neg (by rw [hcb]; decide), if_neg (by rw [hct]; simp), hcw]
  have HC : Hid (callB s = true) := hcb
  have HT : Hid (∀ W, Calls Tryz.prog 36 #[.string s] W fun e w' => ∃ a cap, e = .returned (.slice a 5 cap) ∧ Below W.heap.size W w') := fun W => (impl_callT s W).mono (by rintro e w' ⟨a, cap, rfl, _, _, hb⟩; exact ⟨a, cap, by rw [hct]; rfl, hb⟩)
  rcases h with h0 | ⟨g, f, rfl, hg, hc⟩
  · omega
  have x0 := hc 0 (by omega)
  have x1 := hc 1 (by omega)
  have x2 := hc 2 (by omega)
  have x3 := hc 3 (by omega)
  simp only [Nat.add_zero] at x0
  clear hc hcb hct hcw hn
  generalize T 0 = t0 at *
  generalize T 1 = t1 at *
  generalize T 2 = t2 at *
  generalize T 3 = t3 at *
  have HQ : Hid (∀ W, Below w.heap.size w W → Calls Tryz.prog 38 #[.agg #[.int .i64 t0, .int .i64 t1, .int .i64 b, .int .i64 t3, .int .i64 t2]] W fun e w' => e = .returned (tupV (y)) ∧ Below W.heap.size W w') := fun W hW => impl_instOf t0 t1 b t3 t2 y hI W (hM.below hW) (hL.below hW)
  have k0 : (s.toList == [105, 110, 116, 101, 114, 101, 115, 116]) = false := by rw [hw]; rfl
  have k1 : (s.toList == [105, 110, 115, 116, 97, 108, 109, 101, 110, 116]) = true := by rw [hw]; rfl
  have HW : Hid (s.toList = [105, 110, 115, 116, 97, 108, 109, 101, 110, 116]) := hw
  clear hw hI hM hL
  generalize y = m at *
  go_enter Tryz.func21, Tryz.ntmps21
  go_wp2_with fail
  refine (impl_basisRight _ _).mono ?_
  rintro e w1 ⟨rfl, rfl⟩
  rw [hb]
  go_wp2_with fail
  refine (impl_call _ _ HFW.out).mono ?_
  rintro e w1 ⟨rfl, rfl⟩
  rw [HC.out]
  go_wp2_with fail
  refine (HT.out _).mono ?_
  rintro e w2 ⟨ta, tc, rfl, hb2⟩
  have z0 := (hb2.cell (p := ⟨g, _, none⟩) hg).trans x0
  have z1 := (hb2.cell (p := ⟨g, _, none⟩) hg).trans x1
  have z2 := (hb2.cell (p := ⟨g, _, none⟩) hg).trans x2
  have z3 := (hb2.cell (p := ⟨g, _, none⟩) hg).trans x3
  have hg2 : g < w2.heap.size := Nat.lt_of_lt_of_le hg hb2.size
  have HB2 : Hid (Below w1.heap.size w1 w2) := hb2
  have hng : w2.heap.size ≠ g := by omega
  clear hb2 x0 x1 x2 x3
  go_upto_region 11 with fail
  go_region_held3 (fun W => W.cell? ⟨g, f, none⟩ = some (.int .i64 t0) ∧ W.cell? ⟨g, f + 1, none⟩ = some (.int .i64 t1) ∧ W.cell? ⟨g, f + 2, none⟩ = some (.int .i64 t2) ∧ W.cell? ⟨g, f + 3, none⟩ = some (.int .i64 t3)) (go_keep) (first | (go_at_call 38; refine (HQ.out _ (by first | exact HB2.out | exact HB2.out.drew)).mono ?_; rintro e w3 ⟨rfl, hb3⟩; simp only [tupV]; have hx3 : Below w2.heap.size w2 w3 := (by first | exact hb3 | exact (Below.refl _ _).drew.trans hb3); have u0 := (hx3.cell (p := ⟨g, _, none⟩) hg2).trans z0; have u1 := (hx3.cell (p := ⟨g, _, none⟩) hg2).trans z1; have u2 := (hx3.cell (p := ⟨g, _, none⟩) hg2).trans z2; have u3 := (hx3.cell (p := ⟨g, _, none⟩) hg2).trans z3))
  all_goals
    have HBF : Hid (Below w1.heap.size w1 w3) := HB2.out.trans (hx3.mono HB2.out.size)
    go_wp2_with fail
    go_ret2
    refine ⟨?_, HBF.out⟩
    rw [HR.out]
    rfl
set_option linter.unusedVariables false in
set_option maxRecDepth 100000 in
set_option maxHeartbeats 8000000 in
theorem impl_cv_later (y : Int × Int) (b : Int) (s : ByteArray) (n cap : Nat) (a : Option Addr) (T : Nat → Int) (hb : basisB b = true) (hw : s.toList = [108, 97, 116, 101, 114]) (hn : n + 1 = (callT s).length) (hI : InstOf (T 0) (T 1) b (T 3) (T 2) y) (w : World) (hF : FunW w) (hM : Mon w) (hL : Lay w) (h : IntsAt w a n T) :
    Calls Tryz.prog 21 #[.int .i64 b, .string s, .slice a n cap] w fun e w' => e = .returned (tupV (cvB y b s n T)) ∧ Below w.heap.size w w' := by
  have HFW : Hid (FunW w) := hF
  clear hF
  obtain ⟨hcb, hct, hcw⟩ := word_later hw
  rw [hct] at hn
  obtain rfl : n = 2 := by simp at hn; omega
  have HR : Hid (cvB y b s 2 T = dayAddB (T 0) (T 1)) := by show _ = _; unfold cvB; rw [if_neg (by rw [hb]; decide), if_neg (by rw [hcb]; decide), if_neg (by rw [hct]; simp), hcw]
  have HC : Hid (callB s = true) := hcb
  have HT : Hid (∀ W, Calls Tryz.prog 36 #[.string s] W fun e w' => ∃ a cap, e = .returned (.slice a 3 cap) ∧ Below W.heap.size W w') := fun W => (impl_callT s W).mono (by rintro e w' ⟨a, cap, rfl, _, _, hb⟩; exact ⟨a, cap, by rw [hct]; rfl, hb⟩)
  rcases h with h0 | ⟨g, f, rfl, hg, hc⟩
  · omega
  have x0 := hc 0 (by omega)
  have x1 := hc 1 (by omega)
  simp only [Nat.add_zero] at x0
  clear hc hcb hct hcw hn
  generalize T 0 = t0 at *
  generalize T 1 = t1 at *
  generalize T 2 = t2 at *
  generalize T 3 = t3 at *
  have HQ : Hid (∀ W, Below w.heap.size w W → Calls Tryz.prog 39 #[.int .i64 t0, .int .i64 t1] W fun e w' => e = .returned (tupV (dayAddB t0 t1)) ∧ Below W.heap.size W w') := fun W hW => impl_addMonths t0 t1 W (hM.below hW)
  have k0 : (s.toList == [105, 110, 116, 101, 114, 101, 115, 116]) = false := by rw [hw]; rfl
  have k1 : (s.toList == [105, 110, 115, 116, 97, 108, 109, 101, 110, 116]) = false := by rw [hw]; rfl
  have k2 : (s.toList == [108, 97, 116, 101, 114]) = true := by rw [hw]; rfl
  have HW : Hid (s.toList = [108, 97, 116, 101, 114]) := hw
  clear hw hI hM hL
  generalize dayAddB t0 t1 = m at *
  go_enter Tryz.func21, Tryz.ntmps21
  go_wp2_with fail
  refine (impl_basisRight _ _).mono ?_
  rintro e w1 ⟨rfl, rfl⟩
  rw [hb]
  go_wp2_with fail
  refine (impl_call _ _ HFW.out).mono ?_
  rintro e w1 ⟨rfl, rfl⟩
  rw [HC.out]
  go_wp2_with fail
  refine (HT.out _).mono ?_
  rintro e w2 ⟨ta, tc, rfl, hb2⟩
  have z0 := (hb2.cell (p := ⟨g, _, none⟩) hg).trans x0
  have z1 := (hb2.cell (p := ⟨g, _, none⟩) hg).trans x1
  have hg2 : g < w2.heap.size := Nat.lt_of_lt_of_le hg hb2.size
  have HB2 : Hid (Below w1.heap.size w1 w2) := hb2
  have hng : w2.heap.size ≠ g := by omega
  clear hb2 x0 x1
  go_upto_region 13 with fail
  go_region_held3 (fun W => W.cell? ⟨g, f, none⟩ = some (.int .i64 t0) ∧ W.cell? ⟨g, f + 1, none⟩ = some (.int .i64 t1)) (go_keep) (first | (go_at_call 39; refine (HQ.out _ (by first | exact HB2.out | exact HB2.out.drew)).mono ?_; rintro e w3 ⟨rfl, hb3⟩; simp only [tupV]; have hx3 : Below w2.heap.size w2 w3 := (by first | exact hb3 | exact (Below.refl _ _).drew.trans hb3); have u0 := (hx3.cell (p := ⟨g, _, none⟩) hg2).trans z0; have u1 := (hx3.cell (p := ⟨g, _, none⟩) hg2).trans z1))
  all_goals
    have HBF : Hid (Below w1.heap.size w1 w3) := HB2.out.trans (hx3.mono HB2.out.size)
    go_wp2_with fail
    go_ret2
    refine ⟨?_, HBF.out⟩
    rw [HR.out]
    rfl
set_option linter.unusedVariables false in
set_option maxRecDepth 100000 in
set_option maxHeartbeats 8000000 in
theorem impl_cv_days (y : Int × Int) (b : Int) (s : ByteArray) (n cap : Nat) (a : Option Addr) (T : Nat → Int) (hb : basisB b = true) (hw : s.toList = [100, 97, 121, 115]) (hn : n + 1 = (callT s).length) (hI : InstOf (T 0) (T 1) b (T 3) (T 2) y) (w : World) (hF : FunW w) (hM : Mon w) (hL : Lay w) (h : IntsAt w a n T) :
    Calls Tryz.prog 21 #[.int .i64 b, .string s, .slice a n cap] w fun e w' => e = .returned (tupV (cvB y b s n T)) ∧ Below w.heap.size w w' := by
  have HFW : Hid (FunW w) := hF
  clear hF
  obtain ⟨hcb, hct, hcw⟩ := word_days hw
  rw [hct] at hn
  obtain rfl : n = 2 := by simp at hn; omega
  have HR : Hid (cvB y b s 2 T = daysB (T 0) (T 1)) := by show _ = _; unfold cvB; rw [if_neg (by rw [hb]; decide), if_neg (by rw [hcb]; decide), if_neg (by rw [hct]; simp), hcw]
  have HC : Hid (callB s = true) := hcb
  have HT : Hid (∀ W, Calls Tryz.prog 36 #[.string s] W fun e w' => ∃ a cap, e = .returned (.slice a 3 cap) ∧ Below W.heap.size W w') := fun W => (impl_callT s W).mono (by rintro e w' ⟨a, cap, rfl, _, _, hb⟩; exact ⟨a, cap, by rw [hct]; rfl, hb⟩)
  rcases h with h0 | ⟨g, f, rfl, hg, hc⟩
  · omega
  have x0 := hc 0 (by omega)
  have x1 := hc 1 (by omega)
  simp only [Nat.add_zero] at x0
  clear hc hcb hct hcw hn
  generalize T 0 = t0 at *
  generalize T 1 = t1 at *
  generalize T 2 = t2 at *
  generalize T 3 = t3 at *
  have HQ : Hid (∀ W, Below w.heap.size w W → Calls Tryz.prog 40 #[.int .i64 t0, .int .i64 t1] W fun e w' => e = .returned (tupV (daysB t0 t1)) ∧ Below W.heap.size W w') := fun W hW => (impl_days t0 t1 W).mono (by rintro e w' ⟨rfl, rfl⟩; exact ⟨rfl, Below.refl _ _⟩)
  have k0 : (s.toList == [105, 110, 116, 101, 114, 101, 115, 116]) = false := by rw [hw]; rfl
  have k1 : (s.toList == [105, 110, 115, 116, 97, 108, 109, 101, 110, 116]) = false := by rw [hw]; rfl
  have k2 : (s.toList == [108, 97, 116, 101, 114]) = false := by rw [hw]; rfl
  have k3 : (s.toList == [100, 97, 121, 115]) = true := by rw [hw]; rfl
  have HW : Hid (s.toList = [100, 97, 121, 115]) := hw
  clear hw hI hM hL
  generalize daysB t0 t1 = m at *
  go_enter Tryz.func21, Tryz.ntmps21
  go_wp2_with fail
  refine (impl_basisRight _ _).mono ?_
  rintro e w1 ⟨rfl, rfl⟩
  rw [hb]
  go_wp2_with fail
  refine (impl_call _ _ HFW.out).mono ?_
  rintro e w1 ⟨rfl, rfl⟩
  rw [HC.out]
  go_wp2_with fail
  refine (HT.out _).mono ?_
  rintro e w2 ⟨ta, tc, rfl, hb2⟩
  have z0 := (hb2.cell (p := ⟨g, _, none⟩) hg).trans x0
  have z1 := (hb2.cell (p := ⟨g, _, none⟩) hg).trans x1
  have hg2 : g < w2.heap.size := Nat.lt_of_lt_of_le hg hb2.size
  have HB2 : Hid (Below w1.heap.size w1 w2) := hb2
  have hng : w2.heap.size ≠ g := by omega
  clear hb2 x0 x1
  go_upto_region 15 with fail
  go_region_held3 (fun W => W.cell? ⟨g, f, none⟩ = some (.int .i64 t0) ∧ W.cell? ⟨g, f + 1, none⟩ = some (.int .i64 t1)) (go_keep) (first | (go_at_call 40; refine (HQ.out _ (by first | exact HB2.out | exact HB2.out.drew)).mono ?_; rintro e w3 ⟨rfl, hb3⟩; simp only [tupV]; have hx3 : Below w2.heap.size w2 w3 := (by first | exact hb3 | exact (Below.refl _ _).drew.trans hb3); have u0 := (hx3.cell (p := ⟨g, _, none⟩) hg2).trans z0; have u1 := (hx3.cell (p := ⟨g, _, none⟩) hg2).trans z1))
  all_goals
    have HBF : Hid (Below w1.heap.size w1 w3) := HB2.out.trans (hx3.mono HB2.out.size)
    go_wp2_with fail
    go_ret2
    refine ⟨?_, HBF.out⟩
    rw [HR.out]
    rfl
set_option linter.unusedVariables false in
set_option maxRecDepth 100000 in
set_option maxHeartbeats 8000000 in
theorem impl_cv_share (y : Int × Int) (b : Int) (s : ByteArray) (n cap : Nat) (a : Option Addr) (T : Nat → Int) (hb : basisB b = true) (hw : s.toList = [115, 104, 97, 114, 101]) (hn : n + 1 = (callT s).length) (hI : InstOf (T 0) (T 1) b (T 3) (T 2) y) (w : World) (hF : FunW w) (hM : Mon w) (hL : Lay w) (h : IntsAt w a n T) :
    Calls Tryz.prog 21 #[.int .i64 b, .string s, .slice a n cap] w fun e w' => e = .returned (tupV (cvB y b s n T)) ∧ Below w.heap.size w w' := by
  have HFW : Hid (FunW w) := hF
  clear hF
  obtain ⟨hcb, hct, hcw⟩ := word_share hw
  rw [hct] at hn
  obtain rfl : n = 2 := by simp at hn; omega
  have HR : Hid (cvB y b s 2 T = shareB (T 0) (T 1)) := by show _ = _; unfold cvB; rw [if_neg (by rw [hb]; decide), if_neg (by rw [hcb]; decide), if_neg (by rw [hct]; simp), hcw]
  have HC : Hid (callB s = true) := hcb
  have HT : Hid (∀ W, Calls Tryz.prog 36 #[.string s] W fun e w' => ∃ a cap, e = .returned (.slice a 3 cap) ∧ Below W.heap.size W w') := fun W => (impl_callT s W).mono (by rintro e w' ⟨a, cap, rfl, _, _, hb⟩; exact ⟨a, cap, by rw [hct]; rfl, hb⟩)
  rcases h with h0 | ⟨g, f, rfl, hg, hc⟩
  · omega
  have x0 := hc 0 (by omega)
  have x1 := hc 1 (by omega)
  simp only [Nat.add_zero] at x0
  clear hc hcb hct hcw hn
  generalize T 0 = t0 at *
  generalize T 1 = t1 at *
  generalize T 2 = t2 at *
  generalize T 3 = t3 at *
  have HQ : Hid (∀ W, Below w.heap.size w W → Calls Tryz.prog 41 #[.int .i64 t0, .int .i64 t1] W fun e w' => e = .returned (tupV (shareB t0 t1)) ∧ Below W.heap.size W w') := fun W hW => impl_share t0 t1 W
  have k0 : (s.toList == [105, 110, 116, 101, 114, 101, 115, 116]) = false := by rw [hw]; rfl
  have k1 : (s.toList == [105, 110, 115, 116, 97, 108, 109, 101, 110, 116]) = false := by rw [hw]; rfl
  have k2 : (s.toList == [108, 97, 116, 101, 114]) = false := by rw [hw]; rfl
  have k3 : (s.toList == [100, 97, 121, 115]) = false := by rw [hw]; rfl
  have k4 : (s.toList == [115, 104, 97, 114, 101]) = true := by rw [hw]; rfl
  have HW : Hid (s.toList = [115, 104, 97, 114, 101]) := hw
  clear hw hI hM hL
  generalize shareB t0 t1 = m at *
  go_enter Tryz.func21, Tryz.ntmps21
  go_wp2_with fail
  refine (impl_basisRight _ _).mono ?_
  rintro e w1 ⟨rfl, rfl⟩
  rw [hb]
  go_wp2_with fail
  refine (impl_call _ _ HFW.out).mono ?_
  rintro e w1 ⟨rfl, rfl⟩
  rw [HC.out]
  go_wp2_with fail
  refine (HT.out _).mono ?_
  rintro e w2 ⟨ta, tc, rfl, hb2⟩
  have z0 := (hb2.cell (p := ⟨g, _, none⟩) hg).trans x0
  have z1 := (hb2.cell (p := ⟨g, _, none⟩) hg).trans x1
  have hg2 : g < w2.heap.size := Nat.lt_of_lt_of_le hg hb2.size
  have HB2 : Hid (Below w1.heap.size w1 w2) := hb2
  have hng : w2.heap.size ≠ g := by omega
  clear hb2 x0 x1
  go_upto_region 17 with fail
  go_region_held3 (fun W => W.cell? ⟨g, f, none⟩ = some (.int .i64 t0) ∧ W.cell? ⟨g, f + 1, none⟩ = some (.int .i64 t1)) (go_keep) (first | (go_at_call 41; refine (HQ.out _ (by first | exact HB2.out | exact HB2.out.drew)).mono ?_; rintro e w3 ⟨rfl, hb3⟩; simp only [tupV]; have hx3 : Below w2.heap.size w2 w3 := (by first | exact hb3 | exact (Below.refl _ _).drew.trans hb3); have u0 := (hx3.cell (p := ⟨g, _, none⟩) hg2).trans z0; have u1 := (hx3.cell (p := ⟨g, _, none⟩) hg2).trans z1))
  all_goals
    have HBF : Hid (Below w1.heap.size w1 w3) := HB2.out.trans (hx3.mono HB2.out.size)
    go_wp2_with fail
    go_ret2
    refine ⟨?_, HBF.out⟩
    rw [HR.out]
    rfl
set_option linter.unusedVariables false in
set_option maxRecDepth 100000 in
set_option maxHeartbeats 8000000 in
theorem impl_cv_least (y : Int × Int) (b : Int) (s : ByteArray) (n cap : Nat) (a : Option Addr) (T : Nat → Int) (hb : basisB b = true) (hw : s.toList = [108, 101, 97, 115, 116]) (hn : n + 1 = (callT s).length) (hI : InstOf (T 0) (T 1) b (T 3) (T 2) y) (w : World) (hF : FunW w) (hM : Mon w) (hL : Lay w) (h : IntsAt w a n T) :
    Calls Tryz.prog 21 #[.int .i64 b, .string s, .slice a n cap] w fun e w' => e = .returned (tupV (cvB y b s n T)) ∧ Below w.heap.size w w' := by
  have HFW : Hid (FunW w) := hF
  clear hF
  obtain ⟨hcb, hct, hcw⟩ := word_least hw
  rw [hct] at hn
  obtain rfl : n = 2 := by simp at hn; omega
  have HR : Hid (cvB y b s 2 T = minB (T 0) (T 1)) := by show _ = _; unfold cvB; rw [if_neg (by rw [hb]; decide), if_neg (by rw [hcb]; decide), if_neg (by rw [hct]; simp), hcw]
  have HC : Hid (callB s = true) := hcb
  have HT : Hid (∀ W, Calls Tryz.prog 36 #[.string s] W fun e w' => ∃ a cap, e = .returned (.slice a 3 cap) ∧ Below W.heap.size W w') := fun W => (impl_callT s W).mono (by rintro e w' ⟨a, cap, rfl, _, _, hb⟩; exact ⟨a, cap, by rw [hct]; rfl, hb⟩)
  rcases h with h0 | ⟨g, f, rfl, hg, hc⟩
  · omega
  have x0 := hc 0 (by omega)
  have x1 := hc 1 (by omega)
  simp only [Nat.add_zero] at x0
  clear hc hcb hct hcw hn
  generalize T 0 = t0 at *
  generalize T 1 = t1 at *
  generalize T 2 = t2 at *
  generalize T 3 = t3 at *
  have HQ : Hid (∀ W, Below w.heap.size w W → Calls Tryz.prog 42 #[.string s, .int .i64 t0, .int .i64 t1] W fun e w' => e = .returned (tupV (minB t0 t1)) ∧ Below W.heap.size W w') := fun W hW => (impl_least2 s t0 t1 (by rw [hw]; rfl) W).mono (by rintro e w' ⟨rfl, rfl⟩; exact ⟨rfl, Below.refl _ _⟩)
  have k0 : (s.toList == [105, 110, 116, 101, 114, 101, 115, 116]) = false := by rw [hw]; rfl
  have k1 : (s.toList == [105, 110, 115, 116, 97, 108, 109, 101, 110, 116]) = false := by rw [hw]; rfl
  have k2 : (s.toList == [108, 97, 116, 101, 114]) = false := by rw [hw]; rfl
  have k3 : (s.toList == [100, 97, 121, 115]) = false := by rw [hw]; rfl
  have k4 : (s.toList == [115, 104, 97, 114, 101]) = false := by rw [hw]; rfl
  have k5 : (s.toList == [108, 101, 97, 115, 116]) = true := by rw [hw]; rfl
  have HW : Hid (s.toList = [108, 101, 97, 115, 116]) := hw
  clear hw hI hM hL
  generalize minB t0 t1 = m at *
  go_enter Tryz.func21, Tryz.ntmps21
  go_wp2_with fail
  refine (impl_basisRight _ _).mono ?_
  rintro e w1 ⟨rfl, rfl⟩
  rw [hb]
  go_wp2_with fail
  refine (impl_call _ _ HFW.out).mono ?_
  rintro e w1 ⟨rfl, rfl⟩
  rw [HC.out]
  go_wp2_with fail
  refine (HT.out _).mono ?_
  rintro e w2 ⟨ta, tc, rfl, hb2⟩
  have z0 := (hb2.cell (p := ⟨g, _, none⟩) hg).trans x0
  have z1 := (hb2.cell (p := ⟨g, _, none⟩) hg).trans x1
  have hg2 : g < w2.heap.size := Nat.lt_of_lt_of_le hg hb2.size
  have HB2 : Hid (Below w1.heap.size w1 w2) := hb2
  have hng : w2.heap.size ≠ g := by omega
  clear hb2 x0 x1
  go_upto_region 18 with fail
  go_region_held3 (fun W => W.cell? ⟨g, f, none⟩ = some (.int .i64 t0) ∧ W.cell? ⟨g, f + 1, none⟩ = some (.int .i64 t1)) (go_keep) (first | (go_at_call 42; refine (HQ.out _ (by first | exact HB2.out | exact HB2.out.drew)).mono ?_; rintro e w3 ⟨rfl, hb3⟩; simp only [tupV]; have hx3 : Below w2.heap.size w2 w3 := (by first | exact hb3 | exact (Below.refl _ _).drew.trans hb3); have u0 := (hx3.cell (p := ⟨g, _, none⟩) hg2).trans z0; have u1 := (hx3.cell (p := ⟨g, _, none⟩) hg2).trans z1))
  all_goals
    have HBF : Hid (Below w1.heap.size w1 w3) := HB2.out.trans (hx3.mono HB2.out.size)
    go_wp2_with fail
    go_ret2
    refine ⟨?_, HBF.out⟩
    rw [HR.out]
    rfl
set_option linter.unusedVariables false in
set_option maxRecDepth 100000 in
set_option maxHeartbeats 8000000 in
theorem impl_cv_most (y : Int × Int) (b : Int) (s : ByteArray) (n cap : Nat) (a : Option Addr) (T : Nat → Int) (hb : basisB b = true) (hw : s.toList = [109, 111, 115, 116]) (hn : n + 1 = (callT s).length) (hI : InstOf (T 0) (T 1) b (T 3) (T 2) y) (w : World) (hF : FunW w) (hM : Mon w) (hL : Lay w) (h : IntsAt w a n T) :
    Calls Tryz.prog 21 #[.int .i64 b, .string s, .slice a n cap] w fun e w' => e = .returned (tupV (cvB y b s n T)) ∧ Below w.heap.size w w' := by
  have HFW : Hid (FunW w) := hF
  clear hF
  obtain ⟨hcb, hct, hcw⟩ := word_most hw
  rw [hct] at hn
  obtain rfl : n = 2 := by simp at hn; omega
  have HR : Hid (cvB y b s 2 T = maxB (T 0) (T 1)) := by show _ = _; unfold cvB; rw [if_neg (by rw [hb]; decide), if_neg (by rw [hcb]; decide), if_neg (by rw [hct]; simp), hcw]
  have HC : Hid (callB s = true) := hcb
  have HT : Hid (∀ W, Calls Tryz.prog 36 #[.string s] W fun e w' => ∃ a cap, e = .returned (.slice a 3 cap) ∧ Below W.heap.size W w') := fun W => (impl_callT s W).mono (by rintro e w' ⟨a, cap, rfl, _, _, hb⟩; exact ⟨a, cap, by rw [hct]; rfl, hb⟩)
  rcases h with h0 | ⟨g, f, rfl, hg, hc⟩
  · omega
  have x0 := hc 0 (by omega)
  have x1 := hc 1 (by omega)
  simp only [Nat.add_zero] at x0
  clear hc hcb hct hcw hn
  generalize T 0 = t0 at *
  generalize T 1 = t1 at *
  generalize T 2 = t2 at *
  generalize T 3 = t3 at *
  have HQ : Hid (∀ W, Below w.heap.size w W → Calls Tryz.prog 42 #[.string s, .int .i64 t0, .int .i64 t1] W fun e w' => e = .returned (tupV (maxB t0 t1)) ∧ Below W.heap.size W w') := fun W hW => (impl_most2 s t0 t1 (by rw [hw]; rfl) W).mono (by rintro e w' ⟨rfl, rfl⟩; exact ⟨rfl, Below.refl _ _⟩)
  have k0 : (s.toList == [105, 110, 116, 101, 114, 101, 115, 116]) = false := by rw [hw]; rfl
  have k1 : (s.toList == [105, 110, 115, 116, 97, 108, 109, 101, 110, 116]) = false := by rw [hw]; rfl
  have k2 : (s.toList == [108, 97, 116, 101, 114]) = false := by rw [hw]; rfl
  have k3 : (s.toList == [100, 97, 121, 115]) = false := by rw [hw]; rfl
  have k4 : (s.toList == [115, 104, 97, 114, 101]) = false := by rw [hw]; rfl
  have k5 : (s.toList == [108, 101, 97, 115, 116]) = false := by rw [hw]; rfl
  have HW : Hid (s.toList = [109, 111, 115, 116]) := hw
  clear hw hI hM hL
  generalize maxB t0 t1 = m at *
  go_enter Tryz.func21, Tryz.ntmps21
  go_wp2_with fail
  refine (impl_basisRight _ _).mono ?_
  rintro e w1 ⟨rfl, rfl⟩
  rw [hb]
  go_wp2_with fail
  refine (impl_call _ _ HFW.out).mono ?_
  rintro e w1 ⟨rfl, rfl⟩
  rw [HC.out]
  go_wp2_with fail
  refine (HT.out _).mono ?_
  rintro e w2 ⟨ta, tc, rfl, hb2⟩
  have z0 := (hb2.cell (p := ⟨g, _, none⟩) hg).trans x0
  have z1 := (hb2.cell (p := ⟨g, _, none⟩) hg).trans x1
  have hg2 : g < w2.heap.size := Nat.lt_of_lt_of_le hg hb2.size
  have HB2 : Hid (Below w1.heap.size w1 w2) := hb2
  have hng : w2.heap.size ≠ g := by omega
  clear hb2 x0 x1
  go_upto_region 18 with fail
  go_region_held3 (fun W => W.cell? ⟨g, f, none⟩ = some (.int .i64 t0) ∧ W.cell? ⟨g, f + 1, none⟩ = some (.int .i64 t1)) (go_keep) (first | (go_at_call 42; refine (HQ.out _ (by first | exact HB2.out | exact HB2.out.drew)).mono ?_; rintro e w3 ⟨rfl, hb3⟩; simp only [tupV]; have hx3 : Below w2.heap.size w2 w3 := (by first | exact hb3 | exact (Below.refl _ _).drew.trans hb3); have u0 := (hx3.cell (p := ⟨g, _, none⟩) hg2).trans z0; have u1 := (hx3.cell (p := ⟨g, _, none⟩) hg2).trans z1))
  all_goals
    have HBF : Hid (Below w1.heap.size w1 w3) := HB2.out.trans (hx3.mono HB2.out.size)
    go_wp2_with fail
    go_ret2
    refine ⟨?_, HBF.out⟩
    rw [HR.out]
    rfl
theorem impl_cvB (y : Int × Int) (b : Int) (s : ByteArray) (n cap : Nat) (a : Option Addr) (T : Nat → Int) (hI : InstOf (T 0) (T 1) b (T 3) (T 2) y) (w : World) (hF : FunW w) (hM : Mon w) (hL : Lay w) (h : IntsAt w a n T) :
    Calls Tryz.prog 21 #[.int .i64 b, .string s, .slice a n cap] w fun e w' => e = .returned (tupV (cvB y b s n T)) ∧ Below w.heap.size w w' := by
  cases hb : basisB b with
  | false => exact impl_cv_basis y b s n cap a T hb w
  | true =>
    cases hc : callB s with
    | false => exact impl_cv_name y b s n cap a T hb hc w hF
    | true =>
      by_cases hn : n + 1 = (callT s).length
      · rcases word_yes hc with hw | hw | hw | hw | hw | hw | hw
        · exact impl_cv_interest y b s n cap a T hb hw hn hI w hF hM hL h
        · exact impl_cv_instalment y b s n cap a T hb hw hn hI w hF hM hL h
        · exact impl_cv_later y b s n cap a T hb hw hn hI w hF hM hL h
        · exact impl_cv_days y b s n cap a T hb hw hn hI w hF hM hL h
        · exact impl_cv_least y b s n cap a T hb hw hn hI w hF hM hL h
        · exact impl_cv_most y b s n cap a T hb hw hn hI w hF hM hL h
        · exact impl_cv_share y b s n cap a T hb hw hn hI w hF hM hL h
      · refine impl_cv_count y b s n cap a T hb hc hn ?_ w hF
        rcases word_yes hc with hw | hw | hw | hw | hw | hw | hw
        · rw [(word_interest hw).2.1]; decide
        · rw [(word_instalment hw).2.1]; decide
        · rw [(word_later hw).2.1]; decide
        · rw [(word_days hw).2.1]; decide
        · rw [(word_least hw).2.1]; decide
        · rw [(word_most hw).2.1]; decide
        · rw [(word_share hw).2.1]; decide
set_option maxRecDepth 100000 in
set_option maxHeartbeats 8000000 in
theorem impl_cvV (y : Int × Int) (b : Int) (s : ByteArray) (n cap : Nat) (a : Option Addr) (T : Nat → Int) (hI : InstOf (T 0) (T 1) b (T 3) (T 2) y) (w : World) (hF : FunW w) (hM : Mon w) (hL : Lay w) (h : IntsAt w a n T) :
    Calls Tryz.prog 6 #[.int .i64 b, .string s, .slice a n cap] w fun e w' => e = .returned (moneyV (cvV y b s n T)) ∧ Below w.heap.size w w' := by
  by_cases h2 : 20000 < s.size ∨ 400 < n
  · have HR : Hid (cvV y b s n T = (0, 2)) := by show _ = _; unfold cvV; rw [if_pos h2]
    by_cases h1 : 20000 < s.size
    · have q0 : decide (20000 < s.size) = true := by simpa using h1
      have q1 : decide ((20000 : Int) < (s.size : Int)) = true := by simp; omega
      go_enter Tryz.func6, Tryz.ntmps6
      go_wp2_with fail
      refine bodyPost_ret (v := moneyV (0, 2)) ?_ rfl ⟨by rw [HR.out], ?_⟩
      · simp [results, Tryz.results6, go_sem, moneyV]
      · repeat (first | exact Below.refl _ _ | refine Below.setCell ?_ (by exact Nat.le_refl _) _ | refine Below.alloc ?_ (by simp) _)
    · have h3 : 400 < n := by omega
      have q0 : decide (20000 < s.size) = false := by simpa using h1
      have q1 : decide ((20000 : Int) < (s.size : Int)) = false := by simp; omega
      have r0 : decide (400 < n) = true := by simpa using h3
      have r1 : decide ((400 : Int) < (n : Int)) = true := by simp; omega
      go_enter Tryz.func6, Tryz.ntmps6
      go_wp2_with fail
      refine bodyPost_ret (v := moneyV (0, 2)) ?_ rfl ⟨by rw [HR.out], ?_⟩
      · simp [results, Tryz.results6, go_sem, moneyV]
      · repeat (first | exact Below.refl _ _ | refine Below.setCell ?_ (by exact Nat.le_refl _) _ | refine Below.alloc ?_ (by simp) _)
  have q0 : decide (20000 < s.size) = false := by simp; omega
  have q1 : decide ((20000 : Int) < (s.size : Int)) = false := by simp; omega
  have r0 : decide (400 < n) = false := by simp; omega
  have r1 : decide ((400 : Int) < (n : Int)) = false := by simp; omega
  have HE : Hid (cvV y b s n T = cvB y b s n T) := by show _ = _; unfold cvV; rw [if_neg h2]
  rw [HE.out]
  have hbA : Below w.heap.size w (w.alloc (.cells #[.int .i64 0, .int .i64 0] 24)) := (Below.refl _ _).alloc (Nat.le_refl _) _
  have HZ : Hid ((cvB y b s n T).2 ≠ 0 → (cvB y b s n T).1 = 0) := cvB_zero (inst_zero hI) b s n T
  have H1 := impl_cvB y b s n cap a T hI (w.alloc (.cells #[.int .i64 0, .int .i64 0] 24)) (hF.below hbA) (hM.below hbA) (hL.below hbA) (h.below hbA)
  have H1 : Hid (Calls Tryz.prog 21 _ _ _) := H1
  clear HE h2 h hF hM hbA hI
  generalize cvB y b s n T = r at *
  have HL : Hid (Lay w) := hL
  clear hL
  go_enter Tryz.func6, Tryz.ntmps6
  go_wp2_with fail
  refine H1.out.mono ?_
  rintro e w1 ⟨rfl, hb1⟩
  have HB1 : Hid (Below w.heap.size w w1) := ((Below.refl w.heap.size w).alloc (Nat.le_refl _) _).trans (hb1.mono (by simp))
  obtain ⟨hc1, hf1⟩ := bcell hb1
  have hz1 : w.heap.size < w1.heap.size := by have := hb1.size; simp at this; omega
  simp only [tupV]
  go_wp2_with fail
  refine (out_any r HZ.out _ (by exact HL.out.below HB1.out)).mono ?_
  rintro e w2 ⟨rfl, hb⟩
  simp only [moneyV]
  obtain ⟨hc, hf⟩ := bcell hb
  have hz : w.heap.size < w2.heap.size := by have := hb.size; omega
  go_wp2_with fail
  refine bodyPost_ret (v := moneyV r) ?_ rfl ⟨rfl, ?_⟩
  · simp [results, Tryz.results6, go_sem, hc, hc1, hz1, moneyV]
  · have hbb : Below w.heap.size w w2 := HB1.out.trans (hb.mono HB1.out.size)
    repeat (first | exact hbb | refine Below.setCell ?_ (by exact Nat.le_refl _) _)
end Go.Proofs.YtnefcldjigndgaaGreatDoor
