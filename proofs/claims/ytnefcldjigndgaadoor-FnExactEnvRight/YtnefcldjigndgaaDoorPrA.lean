/- What makes a product's Params, its Basis and its names right: what the calls do that look at one thing. -/
import Derived.Test.YtnefcldjigndgaaDoorNrL
import Derived.Test.YtnefcldjigndgaaDoorProd
namespace Go.Proofs.YtnefcldjigndgaaDoor
open Go.RowKit Go.Maps
open Go.Proofs.YtnefcldjigndgaaDoor.Draw

/-- A Param's type and bounds. -/
def parB (p : Pm) : Bool := decide (loB p.t ≤ p.l) && (decide (p.l ≤ p.h) && decide (p.h ≤ hiB p.t))
def parsB (n : Nat) (P : Nat → Pm) : Bool := (List.range n).all fun i => parB (P i)
theorem parsB_false {n k : Nat} {P : Nat → Pm} (hk : k < n) (h : parB (P k) = false) : parsB n P = false := by
  unfold parsB; rw [List.all_eq_false]; exact ⟨k, by simpa using hk, by simp [h]⟩
theorem parsB_true {n : Nat} {P : Nat → Pm} (h : ∀ j, j < n → parB (P j) = true) : parsB n P = true := by
  unfold parsB; rw [List.all_eq_true]; intro j hj; exact h j (by simpa using hj)
theorem parB_spec (p : Pm) : parB p = (bndB p.t p.l && (bndB p.t p.h && decide (p.l ≤ p.h))) := by
  unfold parB bndB
  rw [Bool.eq_iff_iff]
  simp only [Bool.and_eq_true, decide_eq_true_eq]
  omega
def basB (z : Int) : Bool := decide (1 ≤ z) && decide (z ≤ 3)
set_option maxRecDepth 100000 in
set_option maxHeartbeats 8000000 in
theorem impl_basis (z : Int) (w : World) :
    Calls Tryd.prog 57 #[.int .i64 z] w fun e w' => e = .returned (.bool (basB z)) ∧ w' = w := by
  have HE : Hid (basB z = (decide (1 ≤ z) && decide (z ≤ 3))) := rfl
  by_cases h : 1 ≤ z
  · have q : decide (1 ≤ z) = true := by simpa using h
    have hG : basB z = decide (z ≤ 3) := by rw [HE.out, q]; rfl
    have HG : Hid (basB z = decide (z ≤ 3)) := hG
    clear HE hG h
    go_enter Tryd.func57, Tryd.ntmps57
    go_wp2_with fail
    go_ret
    exact ⟨ret_bool HG.out.symm, rfl⟩
  · have q : decide (1 ≤ z) = false := by simpa using h
    have hG : basB z = false := by rw [HE.out, q]; rfl
    have HG : Hid (basB z = false) := hG
    clear HE hG h
    go_enter Tryd.func57, Tryd.ntmps57
    go_wp2_with fail
    go_ret
    exact ⟨ret_bool HG.out.symm, rfl⟩
set_option maxRecDepth 100000 in
set_option maxHeartbeats 8000000 in
theorem spec_param (p : Pm) (w : World) :
    Calls Tryd.prog 36 #[.agg #[.string p.a, .int .i64 p.t, .int .i64 p.l, .int .i64 p.h]] w fun e w' => e = .returned (.bool (parB p)) ∧ Below w.heap.size w w' := by
  have HE : Hid (parB p = (bndB p.t p.l && (bndB p.t p.h && decide (p.l ≤ p.h)))) := parB_spec p
  have H1 : Hid (∀ W, Calls Tryd.prog 54 #[.int .i64 p.t, .int .i64 p.l] W fun e w' => e = .returned (.bool (bndB p.t p.l)) ∧ w' = W) := fun W => spec_bound p.t p.l W
  have H2 : Hid (∀ W, Calls Tryd.prog 54 #[.int .i64 p.t, .int .i64 p.h] W fun e w' => e = .returned (.bool (bndB p.t p.h)) ∧ w' = W) := fun W => spec_bound p.t p.h W
  generalize parB p = Z at *
  generalize bndB p.t p.l = B1 at *
  generalize bndB p.t p.h = B2 at *
  generalize p.a = x0 at *
  generalize p.t = x1 at *
  generalize p.l = x2 at *
  generalize p.h = x3 at *
  have HB0 : Hid (Below w.heap.size w (w.alloc (.cells #[.string x0, .int .i64 x1, .int .i64 x2, .int .i64 x3] 66))) := (Below.refl _ _).alloc (Nat.le_refl _) _
  cases B1
  · have HG : Hid (Z = false) := HE.out
    go_enter Tryd.func36, Tryd.ntmps36
    go_wp2_with fail
    refine (H1.out _).mono ?_
    rintro e w1 ⟨rfl, rfl⟩
    go_wp2_with fail
    go_ret
    exact ⟨ret_bool HG.out.symm, HB0.out⟩
  cases B2
  · have HG : Hid (Z = false) := HE.out
    go_enter Tryd.func36, Tryd.ntmps36
    go_wp2_with fail
    refine (H1.out _).mono ?_
    rintro e w1 ⟨rfl, rfl⟩
    go_wp2_with fail
    refine (H2.out _).mono ?_
    rintro e w2 ⟨rfl, rfl⟩
    go_wp2_with fail
    go_ret
    exact ⟨ret_bool HG.out.symm, HB0.out⟩
  have HG : Hid (Z = decide (x2 ≤ x3)) := HE.out
  go_enter Tryd.func36, Tryd.ntmps36
  go_wp2_with fail
  refine (H1.out _).mono ?_
  rintro e w1 ⟨rfl, rfl⟩
  go_wp2_with fail
  refine (H2.out _).mono ?_
  rintro e w2 ⟨rfl, rfl⟩
  go_wp2_with fail
  go_ret
  exact ⟨ret_bool HG.out.symm, HB0.out⟩
set_option maxRecDepth 100000 in
set_option maxHeartbeats 8000000 in
theorem impl_params (a : Option Addr) (n cap : Nat) (P : Nat → Pm) (hn : n ≤ 1048576) (w : World) (h : ParamsAt w a n P) :
    Calls Tryd.prog 59 #[.slice a n cap] w fun e w' => e = .returned (.bool (parsB n P)) ∧ Below w.heap.size w w' := by
  have HL : Hid (ParamsAt w a n P) := h
  clear h
  go_enter Tryd.func59, Tryd.ntmps59
  go_wp2_with fail
  go_loopw [9] (fun i wr => ∃ k : Nat, i = .int .i64 k ∧ k ≤ n ∧ Hid (∀ j, j < k → parB (P j) = true) ∧ Hid (Below w.heap.size w wr)) (fun i _ => n - (intOf i).toNat)
  case atStart => exact ⟨0, rfl, by omega, fun j hj => by omega, Below.refl _ _⟩
  case round =>
    obtain ⟨k, rfl, hk, HQ, HB⟩ := hrel
    by_cases hkn : k < n
    · have q0 : decide (k < n) = true := by simpa using hkn
      have q1 : decide ((k : Int) < (n : Int)) = true := by simpa using hkn
      rcases HL.out with h0 | ⟨g, o, rfl, hg, hc⟩
      · omega
      obtain ⟨c0, c1, c2, c3⟩ := hc k hkn
      have d0 := (HB.out.cell (p := ⟨g, _, none⟩) hg).trans c0
      have d1 := (HB.out.cell (p := ⟨g, _, none⟩) hg).trans c1
      have d2 := (HB.out.cell (p := ⟨g, _, none⟩) hg).trans c2
      have d3 := (HB.out.cell (p := ⟨g, _, none⟩) hg).trans c3
      have HE : Hid (parB (P k) = (decide (loB (P k).t ≤ (P k).l) && (decide ((P k).l ≤ (P k).h) && decide ((P k).h ≤ hiB (P k).t)))) := rfl
      have HF : Hid (parB (P k) = false → parsB n P = false) := fun e => parsB_false hkn e
      have HS : Hid (parB (P k) = true → ∀ j, j < k + 1 → parB (P j) = true) := fun e j hj => by
        by_cases q : j = k
        · rw [q]; exact e
        · exact HQ.out j (by omega)
      have HC : Hid (∀ W, Calls Tryd.prog 77 #[.int .i64 (P k).t] W fun e w' => e = .returned (.tuple #[.int .i64 (loB (P k).t), .int .i64 (hiB (P k).t)]) ∧ w' = W) := fun W => impl_bounds (P k).t W
      clear hc c0 c1 c2 c3 HQ
      generalize parB (P k) = Z at *
      generalize loB (P k).t = lo at *
      generalize hiB (P k).t = hi at *
      generalize (P k).a = x0 at *
      generalize (P k).t = x1 at *
      generalize (P k).l = x2 at *
      generalize (P k).h = x3 at *
      have HB0 : Hid (Below w.heap.size w (wr.alloc (.cells #[.string x0, .int .i64 x1, .int .i64 x2, .int .i64 x3] 66))) := HB.out.alloc HB.out.size _
      by_cases c0 : lo ≤ x2
      rotate_left
      · have r0 : decide (x2 < lo) = true := by simp; omega
        have hz : Z = false := by rw [HE.out, decide_eq_false c0]; rfl
        have HG : Hid (parsB n P = false) := HF.out hz
        clear hz HE HF HS c0
        go_wp2_with fail
        refine (HC.out _).mono ?_
        rintro e w1 ⟨rfl, rfl⟩
        go_wp2_with fail
        go_ret
        exact ⟨ret_bool HG.out.symm, HB0.out⟩
      have r0 : decide (x2 < lo) = false := by simp; omega
      by_cases c1 : x2 ≤ x3
      rotate_left
      · have r1 : decide (x3 < x2) = true := by simp; omega
        have hz : Z = false := by rw [HE.out, decide_eq_true c0, decide_eq_false c1]; rfl
        have HG : Hid (parsB n P = false) := HF.out hz
        clear hz HE HF HS c1 c0
        go_wp2_with fail
        refine (HC.out _).mono ?_
        rintro e w1 ⟨rfl, rfl⟩
        go_wp2_with fail
        go_ret
        exact ⟨ret_bool HG.out.symm, HB0.out⟩
      have r1 : decide (x3 < x2) = false := by simp; omega
      by_cases c2 : x3 ≤ hi
      rotate_left
      · have r2 : decide (hi < x3) = true := by simp; omega
        have hz : Z = false := by rw [HE.out, decide_eq_true c0, decide_eq_true c1, decide_eq_false c2]; rfl
        have HG : Hid (parsB n P = false) := HF.out hz
        clear hz HE HF HS c2 c0 c1
        go_wp2_with fail
        refine (HC.out _).mono ?_
        rintro e w1 ⟨rfl, rfl⟩
        go_wp2_with fail
        go_ret
        exact ⟨ret_bool HG.out.symm, HB0.out⟩
      have r2 : decide (hi < x3) = false := by simp; omega
      have hz : Z = true := by rw [HE.out, decide_eq_true c0, decide_eq_true c1, decide_eq_true c2]; rfl
      have HG : Hid (∀ j, j < k + 1 → parB (P j) = true) := HS.out hz
      clear hz HE HF HS c0 c1 c2
      go_wp2_with fail
      refine (HC.out _).mono ?_
      rintro e w1 ⟨rfl, rfl⟩
      go_wp2_with fail
      go_roundw
      case rel => exact ⟨k + 1, by go_num, by omega, HG, HB0⟩
      case measure => simp [intOf]; omega
    · have q0 : decide (k < n) = false := by simpa using hkn
      have q1 : decide ((k : Int) < (n : Int)) = false := by simpa using hkn
      obtain rfl : k = n := by omega
      have HG : Hid (parsB k P = true) := parsB_true HQ.out
      go_wp2_with fail
      go_ret
      exact ⟨ret_bool HG.out.symm, HB.out⟩
set_option maxRecDepth 100000 in
set_option maxHeartbeats 8000000 in
theorem impl_index (a : Option Addr) (n cap : Nat) (I : Nat → Tx) (s : ByteArray) (hn : n ≤ 1048576) (w : World) (h : TextsAt w a n I) :
    Calls Tryd.prog 84 #[.slice a n cap, .string s] w fun e w' => ∃ r : Int, e = .returned (.int .i64 r) ∧ decide (0 ≤ r) = inB I n s ∧ w' = w := by
  have HT : Hid (TextsAt w a n I) := h
  clear h
  have hxx : ∀ x : List UInt8, (x == x) = true := fun x => by simp
  go_enter Tryd.func84, Tryd.ntmps84
  go_wp2_with fail
  go_loop [8] (fun i => ∃ k : Nat, k ≤ n ∧ i = .int .i64 k ∧ Hid (∀ j, j < k → ¬ (I j).t = s)) (fun i => n - (intOf i).toNat)
  case atStart => exact ⟨0, Nat.zero_le _, rfl, fun j hj => by omega⟩
  case round =>
    obtain ⟨k, hk, rfl, H⟩ := hrel
    by_cases hkn : k < n
    · have p0 : decide (k < n) = true := by simpa using hkn
      have p1 : decide ((k : Int) < (n : Int)) = true := by simpa using hkn
      rcases HT.out with h0 | ⟨g, o, rfl, hg, hc⟩
      · omega
      have c0 := hc k hkn
      clear hc
      by_cases e : (I k).t = s
      · have HR : Hid (inB I n s = true) := inB_true hkn e
        rw [e] at c0
        clear e
        go_wp2_with fail
        go_ret
        exact ⟨k, rfl, by rw [HR.out]; simp, rfl⟩
      · have hne := ne_str (fun h => e h.symm : ¬ s = (I k).t)
        have H' : Hid (∀ j, j < k + 1 → ¬ (I j).t = s) := fun j hj => by
          by_cases q : j = k
          · rw [q]; exact e
          · exact H.out j (by omega)
        clear e H
        generalize (I k).t = x at *
        go_wp2_with fail
        go_round
        case rel => exact ⟨k + 1, by omega, by go_num, H'⟩
        case measure => simp [intOf]; omega
    · have p0 : decide (k < n) = false := by simpa using hkn
      have p1 : decide ((k : Int) < (n : Int)) = false := by simpa using hkn
      obtain rfl : k = n := by omega
      have HR : Hid (inB I k s = false) := inB_false H.out
      go_wp2_with fail
      go_ret
      exact ⟨-1, rfl, by rw [HR.out]; rfl, rfl⟩
set_option maxRecDepth 100000 in
set_option maxHeartbeats 8000000 in
theorem impl_contains (a : Option Addr) (n cap : Nat) (I : Nat → Tx) (s : ByteArray) (hn : n ≤ 1048576) (w : World) (h : TextsAt w a n I) :
    Calls Tryd.prog 76 #[.slice a n cap, .string s] w fun e w' => e = .returned (.bool (inB I n s)) ∧ w' = w := by
  have HI := impl_index a n cap I s hn w h
  have HI : Hid (Calls Tryd.prog 84 _ _ _) := HI
  clear h
  generalize inB I n s = Z at *
  go_enter Tryd.func76, Tryd.ntmps76
  go_wp2_with fail
  refine HI.out.mono ?_
  rintro e w1 ⟨r, rfl, hr, rfl⟩
  go_wp2_with fail
  go_ret
  exact ⟨rfl, rfl⟩
end Go.Proofs.YtnefcldjigndgaaDoor
