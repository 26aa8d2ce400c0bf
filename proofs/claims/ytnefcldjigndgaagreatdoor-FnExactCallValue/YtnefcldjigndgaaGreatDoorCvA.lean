/- What functions come to: the program's inner calls. -/
import Derived.Test.YtnefcldjigndgaaGreatDoorTyC
import Derived.Test.YtnefcldjigndgaaGreatDoorInts
import Derived.Test.YtnefcldjigndgaaGreatDoorFn
import Derived.Test.YtnefcldjigndgaaGreatDoorIntS
import Derived.Test.YtnefcldjigndgaaGreatDoorPlanIn
namespace Go.Proofs.YtnefcldjigndgaaGreatDoor
open Go.RowKit
open Go.Proofs.YtnefcldjigndgaaGreatDoor.Draw

def daysB (a b : Int) : Int × Int := if (dayRB a && dayRB b) = true then (b - a, 0) else (0, 1)
def shareB (a r : Int) : Int × Int := if rateB r = true then mulDivB a r 1000000 else (0, 1)
def minB (a b : Int) : Int × Int := if (rightB a && rightB b) = true then (min a b, 0) else (0, 1)
def maxB (a b : Int) : Int × Int := if (rightB a && rightB b) = true then (max a b, 0) else (0, 1)
def cvW (y : Int × Int) (b : Int) (s : ByteArray) (T : Nat → Int) : Int × Int :=
  if (s.toList == [105, 110, 116, 101, 114, 101, 115, 116]) = true then interestB (T 0) (T 1) b (T 2) (T 3) else
  if (s.toList == [105, 110, 115, 116, 97, 108, 109, 101, 110, 116]) = true then y else
  if (s.toList == [108, 97, 116, 101, 114]) = true then dayAddB (T 0) (T 1) else
  if (s.toList == [100, 97, 121, 115]) = true then daysB (T 0) (T 1) else
  if (s.toList == [115, 104, 97, 114, 101]) = true then shareB (T 0) (T 1) else
  if (s.toList == [108, 101, 97, 115, 116]) = true then minB (T 0) (T 1) else
  maxB (T 0) (T 1)
def cvB (y : Int × Int) (b : Int) (s : ByteArray) (n : Nat) (T : Nat → Int) : Int × Int :=
  if basisB b = false then (0, 1) else if callB s = false then (0, 6) else if n + 1 ≠ (callT s).length then (0, 1) else cvW y b s T
def cvV (y : Int × Int) (b : Int) (s : ByteArray) (n : Nat) (T : Nat → Int) : Int × Int := if 20000 < s.size ∨ 400 < n then (0, 2) else cvB y b s n T
theorem inst_zero {p r b s t : Int} {x : Int × Int} (h : InstOf p r b s t x) : x.2 ≠ 0 → x.1 = 0 := by
  rcases h with ⟨_, rfl⟩ | ⟨_, _, _, _, _, rfl⟩ <;> simp
theorem cvW_zero {y : Int × Int} (hy : y.2 ≠ 0 → y.1 = 0) (b : Int) (s : ByteArray) (T : Nat → Int) : (cvW y b s T).2 ≠ 0 → (cvW y b s T).1 = 0 := by
  unfold cvW daysB shareB minB maxB
  repeat' split
  all_goals first | exact interestB_zero _ _ _ _ _ | exact hy | exact dayAddB_zero _ _ | exact mulDivB_zero _ _ _ | simp
theorem cvB_zero {y : Int × Int} (hy : y.2 ≠ 0 → y.1 = 0) (b : Int) (s : ByteArray) (n : Nat) (T : Nat → Int) : (cvB y b s n T).2 ≠ 0 → (cvB y b s n T).1 = 0 := by
  unfold cvB
  repeat' split
  all_goals first | exact cvW_zero hy _ _ _ | simp
theorem word_interest {s : ByteArray} (e : s.toList = [105, 110, 116, 101, 114, 101, 115, 116]) : callB s = true ∧ callT s = [2, 2, 3, 4, 4] ∧ ∀ (y : Int × Int) (b : Int) (T : Nat → Int), cvW y b s T = interestB (T 0) (T 1) b (T 2) (T 3) := by
  refine ⟨by unfold callB; rw [e]; rfl, by unfold callT; rw [e]; rfl, fun y b T => by unfold cvW; rw [e]; rfl⟩
theorem word_instalment {s : ByteArray} (e : s.toList = [105, 110, 115, 116, 97, 108, 109, 101, 110, 116]) : callB s = true ∧ callT s = [2, 2, 3, 1, 4] ∧ ∀ (y : Int × Int) (b : Int) (T : Nat → Int), cvW y b s T = y := by
  refine ⟨by unfold callB; rw [e]; rfl, by unfold callT; rw [e]; rfl, fun y b T => by unfold cvW; rw [e]; rfl⟩
theorem word_later {s : ByteArray} (e : s.toList = [108, 97, 116, 101, 114]) : callB s = true ∧ callT s = [4, 4, 1] ∧ ∀ (y : Int × Int) (b : Int) (T : Nat → Int), cvW y b s T = dayAddB (T 0) (T 1) := by
  refine ⟨by unfold callB; rw [e]; rfl, by unfold callT; rw [e]; rfl, fun y b T => by unfold cvW; rw [e]; rfl⟩
theorem word_days {s : ByteArray} (e : s.toList = [100, 97, 121, 115]) : callB s = true ∧ callT s = [1, 4, 4] ∧ ∀ (y : Int × Int) (b : Int) (T : Nat → Int), cvW y b s T = daysB (T 0) (T 1) := by
  refine ⟨by unfold callB; rw [e]; rfl, by unfold callT; rw [e]; rfl, fun y b T => by unfold cvW; rw [e]; rfl⟩
theorem word_share {s : ByteArray} (e : s.toList = [115, 104, 97, 114, 101]) : callB s = true ∧ callT s = [2, 2, 3] ∧ ∀ (y : Int × Int) (b : Int) (T : Nat → Int), cvW y b s T = shareB (T 0) (T 1) := by
  refine ⟨by unfold callB; rw [e]; rfl, by unfold callT; rw [e]; rfl, fun y b T => by unfold cvW; rw [e]; rfl⟩
theorem word_least {s : ByteArray} (e : s.toList = [108, 101, 97, 115, 116]) : callB s = true ∧ callT s = [2, 2, 2] ∧ ∀ (y : Int × Int) (b : Int) (T : Nat → Int), cvW y b s T = minB (T 0) (T 1) := by
  refine ⟨by unfold callB; rw [e]; rfl, by unfold callT; rw [e]; rfl, fun y b T => by unfold cvW; rw [e]; rfl⟩
theorem word_most {s : ByteArray} (e : s.toList = [109, 111, 115, 116]) : callB s = true ∧ callT s = [2, 2, 2] ∧ ∀ (y : Int × Int) (b : Int) (T : Nat → Int), cvW y b s T = maxB (T 0) (T 1) := by
  refine ⟨by unfold callB; rw [e]; rfl, by unfold callT; rw [e]; rfl, fun y b T => by unfold cvW; rw [e]; rfl⟩
theorem word_no {s : ByteArray} (h : callB s = false) : callT s = [] ∧ (s.toList == [105, 110, 116, 101, 114, 101, 115, 116]) = false ∧ (s.toList == [105, 110, 115, 116, 97, 108, 109, 101, 110, 116]) = false ∧ (s.toList == [108, 97, 116, 101, 114]) = false ∧ (s.toList == [100, 97, 121, 115]) = false ∧ (s.toList == [108, 101, 97, 115, 116]) = false ∧ (s.toList == [109, 111, 115, 116]) = false ∧ (s.toList == [115, 104, 97, 114, 101]) = false := by
  unfold callB at h
  simp only [Bool.or_eq_false_iff] at h
  obtain ⟨h0, h1, h2, h3, h4, h5, h6⟩ := h
  exact ⟨by unfold callT; rw [h0, h1, h2, h3, h4, h5, h6]; rfl, h0, h1, h2, h3, h4, h5, h6⟩
theorem word_yes {s : ByteArray} (h : callB s = true) : s.toList = [105, 110, 116, 101, 114, 101, 115, 116] ∨ s.toList = [105, 110, 115, 116, 97, 108, 109, 101, 110, 116] ∨ s.toList = [108, 97, 116, 101, 114] ∨ s.toList = [100, 97, 121, 115] ∨ s.toList = [108, 101, 97, 115, 116] ∨ s.toList = [109, 111, 115, 116] ∨ s.toList = [115, 104, 97, 114, 101] := by
  unfold callB at h
  simpa only [Bool.or_eq_true, beq_iff_eq] using h
set_option maxRecDepth 100000 in
set_option maxHeartbeats 8000000 in
theorem impl_days (a b : Int) (w : World) :
    Calls Tryz.prog 40 #[.int .i64 a, .int .i64 b] w fun e w' => e = .returned (tupV (daysB a b)) ∧ w' = w := by
  cases ha : dayRB a with
  | false =>
    have HR : Hid (daysB a b = (0, 1)) := by show _ = _; unfold daysB; rw [ha]; rfl
    go_enter Tryz.func40, Tryz.ntmps40
    go_wp2_with fail
    refine (impl_dayRight _ _).mono ?_
    rintro e w1 ⟨rfl, rfl⟩
    rw [ha]
    go_wp2_with fail
    go_ret2
    refine ⟨?_, rfl⟩
    rw [HR.out, tupV_err _ _ (by decide)]; rfl
  | true =>
    cases hb : dayRB b with
    | false =>
      have HR : Hid (daysB a b = (0, 1)) := by show _ = _; unfold daysB; rw [ha, hb]; rfl
      go_enter Tryz.func40, Tryz.ntmps40
      go_wp2_with fail
      refine (impl_dayRight _ _).mono ?_
      rintro e w1 ⟨rfl, rfl⟩
      rw [ha]
      go_wp2_with fail
      refine (impl_dayRight _ _).mono ?_
      rintro e w1 ⟨rfl, rfl⟩
      rw [hb]
      go_wp2_with fail
      go_ret2
      refine ⟨?_, rfl⟩
      rw [HR.out, tupV_err _ _ (by decide)]; rfl
    | true =>
      have HR : Hid (daysB a b = (b - a, 0)) := by show _ = _; unfold daysB; rw [ha, hb]; rfl
      obtain ⟨a0, a1⟩ : 0 ≤ a ∧ a ≤ 36524 := by simpa [dayRB] using ha
      obtain ⟨b0, b1⟩ : 0 ≤ b ∧ b ≤ 36524 := by simpa [dayRB] using hb
      go_enter Tryz.func40, Tryz.ntmps40
      go_wp2_with fail
      refine (impl_dayRight _ _).mono ?_
      rintro e w1 ⟨rfl, rfl⟩
      rw [ha]
      go_wp2_with fail
      refine (impl_dayRight _ _).mono ?_
      rintro e w1 ⟨rfl, rfl⟩
      rw [hb]
      go_wp2_with fail
      go_ret2
      refine ⟨?_, rfl⟩
      rw [HR.out, tupV_ok]; rfl
set_option maxRecDepth 100000 in
set_option maxHeartbeats 8000000 in
theorem impl_share (a r : Int) (w : World) :
    Calls Tryz.prog 41 #[.int .i64 a, .int .i64 r] w fun e w' => e = .returned (tupV (shareB a r)) ∧ Below w.heap.size w w' := by
  cases hr : rateB r with
  | false =>
    have HR : Hid (shareB a r = (0, 1)) := by show _ = _; unfold shareB; rw [hr]; rfl
    go_enter Tryz.func41, Tryz.ntmps41
    go_wp2_with fail
    refine (impl_rateB _ _).mono ?_
    rintro e w1 ⟨rfl, rfl⟩
    rw [hr]
    go_wp2_with fail
    go_ret2
    refine ⟨?_, Below.refl _ _⟩
    rw [HR.out, tupV_err _ _ (by decide)]; rfl
  | true =>
    have HR : Hid (shareB a r = mulDivB a r 1000000) := by show _ = _; unfold shareB; rw [hr]; rfl
    have HC : Hid (∀ W, Calls Tryz.prog 50 #[.int .i64 a, .int .i64 r, .int .i64 1000000] W fun e w' => e = .returned (tupV (mulDivB a r 1000000)) ∧ Below W.heap.size W w') := fun W => impl_mulDivM a r 1000000 W
    generalize mulDivB a r 1000000 = m at *
    go_enter Tryz.func41, Tryz.ntmps41
    go_wp2_with fail
    refine (impl_rateB _ _).mono ?_
    rintro e w1 ⟨rfl, rfl⟩
    rw [hr]
    go_wp2_with fail
    refine (HC.out _).mono ?_
    rintro e w2 ⟨rfl, hb⟩
    have HB : Hid (Below w1.heap.size w1 w2) := hb
    clear hb
    simp only [tupV]
    go_wp2_with fail
    go_ret2
    refine ⟨?_, HB.out⟩
    rw [HR.out]
    rfl
set_option maxRecDepth 100000 in
set_option maxHeartbeats 8000000 in
theorem impl_least2 (s : ByteArray) (a b : Int) (hs : (s.toList == [108, 101, 97, 115, 116]) = true) (w : World) :
    Calls Tryz.prog 42 #[.string s, .int .i64 a, .int .i64 b] w fun e w' => e = .returned (tupV (minB a b)) ∧ w' = w := by
  cases ha : rightB a with
  | false =>
    have HR : Hid (minB a b = (0, 1)) := by show _ = _; unfold minB; rw [ha]; rfl
    go_enter Tryz.func42, Tryz.ntmps42
    go_wp2_with fail
    refine (impl_right _ _).mono ?_
    rintro e w1 ⟨rfl, rfl⟩
    rw [ha]
    go_wp2_with fail
    go_ret2
    refine ⟨?_, rfl⟩
    rw [HR.out, tupV_err _ _ (by decide)]; rfl
  | true =>
    cases hb : rightB b with
    | false =>
      have HR : Hid (minB a b = (0, 1)) := by show _ = _; unfold minB; rw [ha, hb]; rfl
      go_enter Tryz.func42, Tryz.ntmps42
      go_wp2_with fail
      refine (impl_right _ _).mono ?_
      rintro e w1 ⟨rfl, rfl⟩
      rw [ha]
      go_wp2_with fail
      refine (impl_right _ _).mono ?_
      rintro e w1 ⟨rfl, rfl⟩
      rw [hb]
      go_wp2_with fail
      go_ret2
      refine ⟨?_, rfl⟩
      rw [HR.out, tupV_err _ _ (by decide)]; rfl
    | true =>
      have HR : Hid (minB a b = (min a b, 0)) := by show _ = _; unfold minB; rw [ha, hb]; rfl
      go_enter Tryz.func42, Tryz.ntmps42
      go_wp2_with fail
      refine (impl_right _ _).mono ?_
      rintro e w1 ⟨rfl, rfl⟩
      rw [ha]
      go_wp2_with fail
      refine (impl_right _ _).mono ?_
      rintro e w1 ⟨rfl, rfl⟩
      rw [hb]
      go_wp2_with fail
      go_ret2
      refine ⟨?_, rfl⟩
      rw [HR.out, tupV_ok]; rfl
set_option maxRecDepth 100000 in
set_option maxHeartbeats 8000000 in
theorem impl_most2 (s : ByteArray) (a b : Int) (hs : (s.toList == [108, 101, 97, 115, 116]) = false) (w : World) :
    Calls Tryz.prog 42 #[.string s, .int .i64 a, .int .i64 b] w fun e w' => e = .returned (tupV (maxB a b)) ∧ w' = w := by
  cases ha : rightB a with
  | false =>
    have HR : Hid (maxB a b = (0, 1)) := by show _ = _; unfold maxB; rw [ha]; rfl
    go_enter Tryz.func42, Tryz.ntmps42
    go_wp2_with fail
    refine (impl_right _ _).mono ?_
    rintro e w1 ⟨rfl, rfl⟩
    rw [ha]
    go_wp2_with fail
    go_ret2
    refine ⟨?_, rfl⟩
    rw [HR.out, tupV_err _ _ (by decide)]; rfl
  | true =>
    cases hb : rightB b with
    | false =>
      have HR : Hid (maxB a b = (0, 1)) := by show _ = _; unfold maxB; rw [ha, hb]; rfl
      go_enter Tryz.func42, Tryz.ntmps42
      go_wp2_with fail
      refine (impl_right _ _).mono ?_
      rintro e w1 ⟨rfl, rfl⟩
      rw [ha]
      go_wp2_with fail
      refine (impl_right _ _).mono ?_
      rintro e w1 ⟨rfl, rfl⟩
      rw [hb]
      go_wp2_with fail
      go_ret2
      refine ⟨?_, rfl⟩
      rw [HR.out, tupV_err _ _ (by decide)]; rfl
    | true =>
      have HR : Hid (maxB a b = (max a b, 0)) := by show _ = _; unfold maxB; rw [ha, hb]; rfl
      go_enter Tryz.func42, Tryz.ntmps42
      go_wp2_with fail
      refine (impl_right _ _).mono ?_
      rintro e w1 ⟨rfl, rfl⟩
      rw [ha]
      go_wp2_with fail
      refine (impl_right _ _).mono ?_
      rintro e w1 ⟨rfl, rfl⟩
      rw [hb]
      go_wp2_with fail
      go_ret2
      refine ⟨?_, rfl⟩
      rw [HR.out, tupV_ok]; rfl
structure Ob (w W : World) (cs : Array Value) : Prop where
  box : ∀ j, W.cell? ⟨w.heap.size, j, none⟩ = cs[j]?
  size : w.heap.size + 1 ≤ W.heap.size
  bel : Below w.heap.size w W
theorem Ob.new (w : World) (cs : Array Value) (t : TypeId) : Ob w (w.alloc (.cells cs t)) cs := ⟨fun j => cnew' rfl j, by simp, (Below.refl _ _).alloc (Nat.le_refl _) _⟩
theorem Ob.next {w W W' : World} {cs : Array Value} (h : Ob w W cs) (hb : Below W.heap.size W W') : Ob w W' cs := by
  have hs := h.size
  exact ⟨fun j => (hb.cell (p := ⟨w.heap.size, j, none⟩) (by show w.heap.size < _; omega)).trans (h.box j), Nat.le_trans hs hb.size, h.bel.trans (hb.mono h.bel.size)⟩
set_option maxRecDepth 100000 in
set_option maxHeartbeats 8000000 in
theorem impl_instOf (p r b s t : Int) (x : Int × Int) (hI : InstOf p r b s t x) (w : World) (hM : Mon w) (hL : Lay w) :
    Calls Tryz.prog 38 #[.agg #[.int .i64 p, .int .i64 r, .int .i64 b, .int .i64 s, .int .i64 t]] w fun e w' => e = .returned (tupV x) ∧ Below w.heap.size w w' := by
  have HM : Hid (Mon w) := hM
  have HL : Hid (Lay w) := hL
  clear hM hL
  rcases hI with ⟨hr, rfl⟩ | ⟨n, X, rfl, hok, hX, rfl⟩
  · have H : Hid (loanB p r b s t = false) := hr
    have HR : Hid (((0 : Int), (1 : Int)) = (0, 1)) := rfl
    have HT0 : Hid (Ob w (w.alloc (.cells #[.int .i64 p, .int .i64 r, .int .i64 b, .int .i64 s, .int .i64 t] 34)) #[.int .i64 p, .int .i64 r, .int .i64 b, .int .i64 s, .int .i64 t]) := Ob.new _ _ _
    clear hr
    go_enter Tryz.func38, Tryz.ntmps38
    go_wp2_with fail
    refine (impl_loanRight p r b s t _ (by exact HM.out.below HT0.out.bel)).mono ?_
    rintro e w1 ⟨rfl, hb1⟩
    have HB1 : Hid (Below w.heap.size w w1) := (HT0.out.next hb1).bel
    rw [H.out]
    clear hb1 HT0
    go_wp2_with fail
    go_ret2
    refine ⟨?_, HB1.out⟩
    rw [tupV_err _ _ (by decide)]; rfl
  have H : Hid (loanB p r b s n = true) := (loanB_iff _ _ _ _ _).2 hok
  have HO : Hid (LoanOk p r b s n) := hok
  have HX : Hid (IsInst p r b s n X) := hX
  have HT0 : Hid (Ob w (w.alloc (.cells #[.int .i64 p, .int .i64 r, .int .i64 b, .int .i64 s, .int .i64 (n : Int)] 34)) #[.int .i64 p, .int .i64 r, .int .i64 b, .int .i64 s, .int .i64 (n : Int)]) := Ob.new _ _ _
  clear hok hX
  go_enter Tryz.func38, Tryz.ntmps38
  go_wp2_with fail
  refine (impl_loanRight p r b s (n : Int) _ (by exact HM.out.below HT0.out.bel)).mono ?_
  rintro e w1 ⟨rfl, hb1⟩
  have HT1 : Hid (Ob w w1 #[.int .i64 p, .int .i64 r, .int .i64 b, .int .i64 s, .int .i64 (n : Int)]) := HT0.out.next hb1
  rw [H.out]
  have c0 := HT1.out.box 0
  have c1 := HT1.out.box 1
  have c2 := HT1.out.box 2
  have c3 := HT1.out.box 3
  have c4 := HT1.out.box 4
  simp at c0 c1 c2 c3 c4
  clear hb1 HT0
  go_wp2_with fail
  refine (impl_course HO.out _ (by exact HM.out.below HT1.out.bel) (by exact HL.out.below HT1.out.bel)).mono ?_
  rintro e w2 ⟨v, rfl, hv, hb2⟩
  have HB2 : Hid (Below w.heap.size w w2) := HT1.out.bel.trans (hb2.mono HT1.out.bel.size)
  obtain ⟨g, cap, rfl⟩ := due_shape hv
  have HV : Hid (Due w2 (.slice (some ⟨g, 0, none⟩) (n + 1) cap) s (n + 1)) := hv
  clear hb2 hv c0 c1 c2 c3 c4 HT1
  go_wp2_with fail
  refine (impl_inst HO.out HX.out _ _ HV.out (by exact HM.out.below HB2.out) (by exact HL.out.below HB2.out)).mono ?_
  rintro e w3 ⟨rfl, hb3⟩
  have HB3 : Hid (Below w.heap.size w w3) := HB2.out.trans (hb3.mono HB2.out.size)
  clear hb3
  go_wp2_with fail
  go_ret2
  refine ⟨?_, HB3.out⟩
  rw [tupV_ok]; rfl
end Go.Proofs.YtnefcldjigndgaaGreatDoor
