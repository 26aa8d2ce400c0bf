/- The order of lines, right ids and right lines: what each call does, of the program and of its model. · Right lines (impl.linesRight): what the call does. · Whole numbers below 2^53 as float64: their sums and comparisons are exact (no program in it). · What is taken and what is put, in one sum of complex numbers (impl.count, impl.settled): what each call does. · The places of lines in a map by their spot (impl.index): what the call does. · Lists of texts: their cells in a row; marked and looked at again: what the laws' helpers do. · A book copied to be worked on (impl.ledgerOf): what the call does. · A right book copied to be worked on (impl.ledgerOf): what the call does. -/
import Derived.Test.YtepkmbfedblhdaaGreatDoorJ1
import Derived.Shelf.Small.Strs
import Derived.Deep.QuietTactic
import Derived.Laws.ComplexArith
import Derived.BigQuiet
import Derived.Deep.DeepCutAuto
import Derived.Deep.CutRange
import Derived.Maps.OwnSet
import Derived.DeepKeys4
import Derived.Deep.RegionHeld3
namespace Go.Proofs.YtepkmbfedblhdaaGreatDoor
open Go.RowKit
open Go.Proofs.YtepkmbfedblhdaaGreatDoor.Draw

set_option maxRecDepth 100000 in
set_option maxHeartbeats 4000000 in
theorem spec_less (a s a' s' : ByteArray) (w : World) :
    Calls Tryz.prog 45 #[.agg #[.string a, .string s], .agg #[.string a', .string s']] w fun e w' => e = .returned (.bool (lessP a s a' s')) ∧ Below w.heap.size w w' := by
  have HE : Hid (lessP a s a' s' = (Op.bytesLess a.toList a'.toList || ((a.toList == a'.toList) && Op.bytesLess s.toList s'.toList))) := rfl
  have HB : Hid (∀ o o', Below w.heap.size w ((w.alloc o).alloc o')) := fun o o' => ((Below.refl _ _).alloc (Nat.le_refl _) _).alloc (by simp) _
  cases hA : Op.bytesLess a.toList a'.toList
  · cases hB : (a.toList == a'.toList)
    · rw [hA, hB] at HE
      go_enter Tryz.func45, Tryz.ntmps45
      go_wp2_with fail
      go_ret
      exact ⟨ret_bool HE.out.symm, HB.out _ _⟩
    · cases hC : Op.bytesLess s.toList s'.toList
      · rw [hA, hB, hC] at HE
        go_enter Tryz.func45, Tryz.ntmps45
        go_wp2_with fail
        go_ret
        exact ⟨ret_bool HE.out.symm, HB.out _ _⟩
      · rw [hA, hB, hC] at HE
        go_enter Tryz.func45, Tryz.ntmps45
        go_wp2_with fail
        go_ret
        exact ⟨ret_bool HE.out.symm, HB.out _ _⟩
  · rw [hA] at HE
    go_enter Tryz.func45, Tryz.ntmps45
    go_wp2_with fail
    go_ret
    exact ⟨ret_bool HE.out.symm, HB.out _ _⟩
theorem str_cmp (a b : ByteArray) (w : World) : Calls Tryz.prog 76 #[.string a, .string b] w fun e w' => e = .returned (.int .i64 (cmpS a b)) ∧ w' = w := Any.strings_Compare lays106 a b w
def orB (x y : Int) : Int := if x ≠ 0 then x else y
set_option maxRecDepth 100000 in
set_option maxHeartbeats 4000000 in
theorem cmp_or (q : Nat) (x y : Int) (w : World) (h0 : w.cell? ⟨q, 0, none⟩ = some (.int .i64 x)) (h1 : w.cell? ⟨q, 1, none⟩ = some (.int .i64 y)) :
    Calls Tryz.prog 75 #[.slice (some ⟨q, 0, none⟩) 2 2] w fun e w' => e = .returned (.int .i64 (orB x y)) ∧ w' = w := by
  go_enter Tryz.func75, Tryz.ntmps75
  go_wp2_with fail
  go_loopw [8] (fun i wr => ∃ k : Nat, i = .int .i64 (k : Int) ∧ k ≤ 2 ∧ wr = w ∧ Hid (1 ≤ k → x = 0) ∧ Hid (2 ≤ k → y = 0)) (fun i _ => 2 - (intOf i).toNat)
  case atStart => exact ⟨0, rfl, by omega, rfl, fun h => by omega, fun h => by omega⟩
  case round =>
    obtain ⟨k, rfl, hk, rfl, HX, HY⟩ := hrel
    rcases (by omega : k = 0 ∨ k = 1 ∨ k = 2) with rfl | rfl | rfl
    · by_cases hx : x = 0
      · subst hx
        go_wp2_with fail
        go_roundw
        case rel => exact ⟨1, by go_num, by omega, trivial, fun _ => (by first | trivial | rfl), fun h => by omega⟩
        case measure => simp [intOf]
      · have t1 : (x != 0) = true := by simpa using hx
        have HE : Hid (orB x y = x) := if_pos hx
        go_wp2_with fail
        go_ret
        exact ⟨ret_int HE.out.symm, rfl⟩
    · by_cases hy : y = 0
      · subst hy
        go_wp2_with fail
        go_roundw
        case rel => exact ⟨2, by go_num, by omega, trivial, fun _ => HX.out (by omega), fun _ => (by first | trivial | rfl)⟩
        case measure => simp [intOf]
      · have t1 : (y != 0) = true := by simpa using hy
        have HE : Hid (orB x y = y) := by rw [HX.out (by omega)]; rfl
        go_wp2_with fail
        go_ret
        exact ⟨ret_int HE.out.symm, rfl⟩
    · have HE : Hid (orB x y = 0) := by rw [HX.out (by omega), HY.out (by omega)]; rfl
      clear HX HY
      go_wp2_with fail
      go_ret
      exact ⟨ret_int HE.out.symm, rfl⟩
set_option maxRecDepth 100000 in
set_option maxHeartbeats 4000000 in
theorem impl_cmp (a s a' s' : ByteArray) (m m' : Int) (w : World) :
    Calls Tryz.prog 68 #[.agg #[.string a, .string s, .int .i64 m], .agg #[.string a', .string s', .int .i64 m']] w fun e w' => e = .returned (.int .i64 (cmpP a s a' s')) ∧ Below w.heap.size w w' := by
  have HE : Hid (cmpP a s a' s' = orB (cmpS a a') (cmpS s s')) := rfl
  go_enter Tryz.func68, Tryz.ntmps68
  go_upto_region 1 with fail
  obtain ⟨W, hW⟩ : ∃ W, W = (w.alloc (.cells #[.string a, .string s, .int .i64 m] 84)).alloc (.cells #[.string a', .string s', .int .i64 m'] 84) := ⟨_, rfl⟩
  have T := two_now w #[.string a, .string s, .int .i64 m] #[.string a', .string s', .int .i64 m'] 84 84
  rw [← hW] at T ⊢
  clear hW
  have b0 := T.box 0
  have b1 := T.box 1
  have r0 := T.res 0
  have r1 := T.res 1
  simp at b0 b1 r0 r1
  have HB : Hid (Below w.heap.size w W) := T.bel
  have HBs : Hid (w.heap.size + 2 ≤ W.heap.size) := T.size
  have n0 : W.heap.size ≠ w.heap.size := by have := T.size; omega
  have n1 : W.heap.size ≠ w.heap.size + 1 := by have := T.size; omega
  clear T
  go_region_held3 (fun V => V.cell? ⟨w.heap.size, 0, none⟩ = some (.string a) ∧ V.cell? ⟨w.heap.size, 1, none⟩ = some (.string s) ∧ V.cell? ⟨w.heap.size + 1, 0, none⟩ = some (.string a') ∧ V.cell? ⟨w.heap.size + 1, 1, none⟩ = some (.string s')) (go_keep) (first | (go_at_call 76; refine (str_cmp _ _ _).mono ?_; rintro e w1 ⟨rfl, rfl⟩) | (go_at_call 75; refine (cmp_or _ (cmpS a a') (cmpS s s') _ (by simp) (by simp)).mono ?_; rintro e w3 ⟨rfl, rfl⟩))
  all_goals (go_wp2_with fail)
  all_goals go_ret
  all_goals exact ⟨ret_int HE.out.symm, (HB.out.alloc HB.out.size _).drew⟩
set_option maxRecDepth 100000 in
set_option maxHeartbeats 4000000 in
theorem impl_ids (a : Option Addr) (n cap : Nat) (I : Nat → Tx) (hn : n ≤ 1048576) (hfit : ∀ i, i < n → (I i).fits) (w : World) (h : TextsAt w a n I) :
    Calls Tryz.prog 54 #[.slice a n cap] w fun e w' => e = .returned (.bool (idsB n I)) ∧ Below w.heap.size w w' := by
  have HL : Hid (TextsAt w a n I) := h
  have HF : Hid (∀ i, i < n → (I i).fits) := hfit
  clear h hfit
  by_cases hlim : n ≤ 100
  · have z0 : decide (100 < n) = false := by simp; omega
    have z1 : decide ((100 : Int) < (n : Int)) = false := by simp; omega
    go_enter Tryz.func54, Tryz.ntmps54
    go_wp2_with fail
    go_loopw [10] (fun i wr => ∃ k : Nat, i = .int .i64 (k : Int) ∧ k ≤ n ∧ Hid (∀ j, j < k → okId I j = true) ∧ Hid (Below w.heap.size w wr)) (fun i _ => n - (intOf i).toNat)
    case atStart => exact ⟨0, rfl, by omega, fun j hj => by omega, Below.refl _ _⟩
    case round =>
      obtain ⟨k, rfl, hk, HS, HB⟩ := hrel
      by_cases hkn : k < n
      · have p0 : decide (k < n) = true := by simpa using hkn
        have p1 : decide ((k : Int) < (n : Int)) = true := by simpa using hkn
        rcases HL.out with h0 | ⟨g, o, rfl, hg, hc⟩
        · omega
        have c0 := hc k hkn
        have d0 := (HB.out.cell (p := ⟨g, _, none⟩) hg).trans c0
        have HF1 : Hid ((I k).t.size ≤ maxLen) := HF.out k hkn
        have HS' : Hid (okId I k = true → ∀ j, j < k + 1 → okId I j = true) := fun hsm j hj => by
          by_cases e : j = k
          · rw [e]; exact hsm
          · exact HS.out j (by omega)
        have HNO : Hid (okId I k = false → idsB n I = false) := idsB_no hkn
        have hgr : g < wr.heap.size := Nat.lt_of_lt_of_le hg HB.out.size
        rcases Nat.eq_zero_or_pos k with hk0 | hk0
        · subst hk0
          have HOK : Hid (okId I 0 = nameB (I 0).t) := by simp [Hid, okId]
          rw [Nat.add_zero] at d0
          generalize okId I 0 = ok at *
          have HC : Hid (∀ W, Calls Tryz.prog 27 #[.string (I 0).t] W fun e w' => e = .returned (.bool (nameB (I 0).t)) ∧ Below W.heap.size W w') := fun W => impl_name _ W HF1.out
          generalize nameB (I 0).t = A at *
          generalize (I 0).t = x at *
          clear hc c0 HS
          go_wp2_with fail
          refine (HC.out _).mono ?_
          rintro e w1 ⟨rfl, hb1⟩
          have HB1 : Hid (Below w.heap.size w w1) := HB.out.trans (hb1.mono HB.out.size)
          clear hb1 d0
          cases A
          · have HX : Hid (idsB n I = false) := HNO.out (by rw [HOK.out])
            go_wp2_with fail
            go_ret
            exact ⟨ret_bool HX.out.symm, HB1.out⟩
          · have HY : Hid (∀ j, j < 0 + 1 → okId I j = true) := HS'.out (by rw [HOK.out])
            go_wp2_with fail
            go_roundw
            case rel => exact ⟨0 + 1, by go_num, by omega, HY, HB1⟩
            case measure => simp [intOf]; omega
        · obtain ⟨J, hJ⟩ : ∃ J : Nat, k = J + 1 := ⟨k - 1, by omega⟩
          have hJi : (k : Int) - 1 = (J : Int) := by omega
          have c1 := hc J (by omega)
          have d1 := (HB.out.cell (p := ⟨g, _, none⟩) hg).trans c1
          have hJn : J < n := by omega
          have t0 : decide (0 < k) = true := by simpa using hk0
          have t1 : decide ((0 : Int) < (k : Int)) = true := by simpa using hk0
          have HOK : Hid (okId I k = (nameB (I k).t && Op.bytesLess (I J).t.toList (I k).t.toList)) := by
            rw [Hid, okId, hJ]; simp [ltS]
          generalize okId I k = ok at *
          have HC : Hid (∀ W, Calls Tryz.prog 27 #[.string (I k).t] W fun e w' => e = .returned (.bool (nameB (I k).t)) ∧ Below W.heap.size W w') := fun W => impl_name _ W HF1.out
          generalize nameB (I k).t = A at *
          generalize (I k).t = x at *
          generalize (I J).t = y at *
          clear hc c0 c1 HS hJ
          go_wp2_with fail
          refine (HC.out _).mono ?_
          rintro e w1 ⟨rfl, hb1⟩
          have HB1 : Hid (Below w.heap.size w w1) := HB.out.trans (hb1.mono HB.out.size)
          have e1 := (hb1.cell (p := ⟨g, _, none⟩) hgr).trans d1
          clear hb1 d0 d1
          cases A
          · have HX : Hid (idsB n I = false) := HNO.out (by rw [HOK.out]; rfl)
            go_wp2_with fail
            go_ret
            exact ⟨ret_bool HX.out.symm, HB1.out⟩
          cases hB : Op.bytesLess y.toList x.toList
          · have HX : Hid (idsB n I = false) := HNO.out (by rw [HOK.out, hB]; rfl)
            go_wp2_with fail
            go_ret
            exact ⟨ret_bool HX.out.symm, HB1.out⟩
          · have HY : Hid (∀ j, j < k + 1 → okId I j = true) := HS'.out (by rw [HOK.out, hB]; rfl)
            go_wp2_with fail
            go_roundw
            case rel => exact ⟨k + 1, by go_num, by omega, HY, HB1⟩
            case measure => simp [intOf]; omega
      · have p0 : decide (k < n) = false := by simpa using hkn
        have p1 : decide ((k : Int) < (n : Int)) = false := by simpa using hkn
        obtain rfl : k = n := by omega
        go_wp2_with fail
        go_ret
        exact ⟨ret_bool (idsB_yes hlim HS.out).symm, HB.out⟩
  · have z0 : decide (100 < n) = true := by simp; omega
    have z1 : decide ((100 : Int) < (n : Int)) = true := by simp; omega
    go_enter Tryz.func54, Tryz.ntmps54
    go_wp2_with fail
    go_ret
    exact ⟨ret_bool (by simp [idsB, hlim]), Below.refl _ _⟩
set_option maxRecDepth 100000 in
set_option maxHeartbeats 4000000 in
theorem spec_ids (a : Option Addr) (n cap : Nat) (I : Nat → Tx) (hn : n ≤ 1048576) (hfit : ∀ i, i < n → (I i).fits) (w : World) (h : TextsAt w a n I) :
    Calls Tryz.prog 42 #[.slice a n cap] w fun e w' => e = .returned (.bool ((List.range n).all (okId I))) ∧ Below w.heap.size w w' := by
  have HL : Hid (TextsAt w a n I) := h
  have HF : Hid (∀ i, i < n → (I i).fits) := hfit
  clear h hfit
  go_enter Tryz.func42, Tryz.ntmps42
  go_wp2_with fail
  go_loopw [3] (fun i wr => ∃ k : Nat, i = .int .i64 (k : Int) ∧ k ≤ n ∧ Hid (∀ j, j < k → okId I j = true) ∧ Hid (Below w.heap.size w wr)) (fun i _ => n - (intOf i).toNat)
  case atStart => exact ⟨0, rfl, by omega, fun j hj => by omega, Below.refl _ _⟩
  case round =>
    obtain ⟨k, rfl, hk, HS, HB⟩ := hrel
    have HBN : Hid (∀ d, Below w.heap.size w (wr.drewN d)) := fun d => ⟨HB.out.os, HB.out.tape, HB.out.output, HB.out.size, HB.out.block⟩
    by_cases hkn : k < n
    · have p0 : decide (k < n) = true := by simpa using hkn
      have p1 : decide ((k : Int) < (n : Int)) = true := by simpa using hkn
      rcases HL.out with h0 | ⟨g, o, rfl, hg, hc⟩
      · omega
      have c0 := hc k hkn
      have d0 : wr.cell? ⟨g, o + k, none⟩ = some (.string (I k).t) := (HB.out.cell (p := ⟨g, _, none⟩) hg).trans c0
      have HF1 : Hid ((I k).t.size ≤ maxLen) := HF.out k hkn
      have HS' : Hid (okId I k = true → ∀ j, j < k + 1 → okId I j = true) := fun hsm j hj => by
        by_cases e : j = k
        · rw [e]; exact hsm
        · exact HS.out j (by omega)
      have HNO : Hid (okId I k = false → (List.range n).all (okId I) = false) := all_no hkn
      rcases Nat.eq_zero_or_pos k with hk0 | hk0
      · subst hk0
        have HOK : Hid (okId I 0 = nameB (I 0).t) := by simp [Hid, okId]
        rw [Nat.add_zero] at d0
        generalize okId I 0 = ok at *
        have HC : Hid (∀ W, Calls Tryz.prog 21 #[.string (I 0).t] W fun e w' => e = .returned (.bool (nameB (I 0).t)) ∧ w' = W) := fun W => spec_name _ W HF1.out
        generalize nameB (I 0).t = A at *
        generalize (I 0).t = x at *
        clear hc c0 HS
        have u0 : decide ((0 : Int) < 0) = false := rfl
        have hb0 : (0 : Int) < (n : Int) := by omega
        go_upto_region 4 with fail
        cases A
        · have HX : Hid ((List.range n).all (okId I) = false) := HNO.out (by rw [HOK.out])
          go_quiet (first | (go_at_call 21; refine Calls.quiet_of_same (HC.out _)))
          go_wp2_with fail
          go_ret
          exact ⟨ret_bool HX.out.symm, HBN.out _⟩
        · have HY : Hid (∀ j, j < 0 + 1 → okId I j = true) := HS'.out (by rw [HOK.out])
          go_quiet (first | (go_at_call 21; refine Calls.quiet_of_same (HC.out _)))
          go_wp2_with fail
          go_roundw
          case rel => exact ⟨0 + 1, by go_num, by omega, HY, HBN.out _⟩
          case measure => simp [intOf]; omega
      · obtain ⟨J, hJ⟩ : ∃ J : Nat, k = J + 1 := ⟨k - 1, by omega⟩
        have hJi : (k : Int) - 1 = (J : Int) := by omega
        have c1 := hc J (by omega)
        have d1 : wr.cell? ⟨g, o + J, none⟩ = some (.string (I J).t) := (HB.out.cell (p := ⟨g, _, none⟩) hg).trans c1
        have hJn : J < n := by omega
        have t0 : decide (0 < k) = true := by simpa using hk0
        have t1 : decide ((0 : Int) < (k : Int)) = true := by simpa using hk0
        have HOK : Hid (okId I k = (nameB (I k).t && Op.bytesLess (I J).t.toList (I k).t.toList)) := by
          rw [Hid, okId, hJ]; simp [ltS]
        generalize okId I k = ok at *
        have HC : Hid (∀ W, Calls Tryz.prog 21 #[.string (I k).t] W fun e w' => e = .returned (.bool (nameB (I k).t)) ∧ w' = W) := fun W => spec_name _ W HF1.out
        generalize nameB (I k).t = A at *
        generalize (I k).t = x at *
        generalize (I J).t = y at *
        clear hc c0 c1 HS hJ
        have hb0 : (k : Int) < (n : Int) := by omega
        have hb1 : (J : Int) < (n : Int) := by omega
        have hJw : IntKind.i64.wrap ((k : Int) - 1) = (J : Int) := by rw [IntWalk.i64_in _ (by omega)]; omega
        go_upto_region 4 with fail
        cases A
        · have HX : Hid ((List.range n).all (okId I) = false) := HNO.out (by rw [HOK.out]; rfl)
          go_quiet (first | (go_at_call 21; refine Calls.quiet_of_same (HC.out _)))
          go_wp2_with fail
          go_ret
          exact ⟨ret_bool HX.out.symm, HBN.out _⟩
        cases hB : Op.bytesLess y.toList x.toList
        · have HX : Hid ((List.range n).all (okId I) = false) := HNO.out (by rw [HOK.out, hB]; rfl)
          go_quiet (first | (go_at_call 21; refine Calls.quiet_of_same (HC.out _)))
          go_wp2_with fail
          go_ret
          exact ⟨ret_bool HX.out.symm, HBN.out _⟩
        · have HY : Hid (∀ j, j < k + 1 → okId I j = true) := HS'.out (by rw [HOK.out, hB]; rfl)
          go_quiet (first | (go_at_call 21; refine Calls.quiet_of_same (HC.out _)))
          go_wp2_with fail
          go_roundw
          case rel => exact ⟨k + 1, by go_num, by omega, HY, HBN.out _⟩
          case measure => simp [intOf]; omega
    · have p0 : decide (k < n) = false := by simpa using hkn
      have p1 : decide ((k : Int) < (n : Int)) = false := by simpa using hkn
      obtain rfl : k = n := by omega
      go_wp2_with fail
      go_ret
      exact ⟨ret_bool (all_yes HS.out).symm, HB.out⟩
end Go.Proofs.YtepkmbfedblhdaaGreatDoor
namespace Go.Proofs.YtepkmbfedblhdaaGreatDoor
open Go.RowKit
open Go.Proofs.YtepkmbfedblhdaaGreatDoor.Draw

set_option maxRecDepth 100000 in
set_option maxHeartbeats 4000000 in
theorem impl_lines (a : Option Addr) (n cap : Nat) (L : Nat → Ln) (hn : n ≤ 1048576) (hfit : ∀ i, i < n → (L i).fits) (w : World) (h : LinesAt w a n L) :
    Calls Tryz.prog 53 #[.slice a n cap] w fun e w' => e = .returned (.bool (linesB n L)) ∧ Below w.heap.size w w' := by
  have HL : Hid (LinesAt w a n L) := h
  have HF : Hid (∀ i, i < n → (L i).fits) := hfit
  clear h hfit
  by_cases hlim : n ≤ 60
  · have z0 : decide (60 < n) = false := by simp; omega
    have z1 : decide ((60 : Int) < (n : Int)) = false := by simp; omega
    go_enter Tryz.func53, Tryz.ntmps53
    go_wp2_with fail
    go_loopw [10] (fun i wr => ∃ k : Nat, i = .int .i64 (k : Int) ∧ k ≤ n ∧ Hid (∀ j, j < k → okLine L j = true) ∧ Hid (Below w.heap.size w wr)) (fun i _ => n - (intOf i).toNat)
    case atStart => exact ⟨0, rfl, by omega, fun j hj => by omega, Below.refl _ _⟩
    case round =>
      obtain ⟨k, rfl, hk, HS, HB⟩ := hrel
      by_cases hkn : k < n
      · have p0 : decide (k < n) = true := by simpa using hkn
        have p1 : decide ((k : Int) < (n : Int)) = true := by simpa using hkn
        rcases HL.out with h0 | ⟨g, o, rfl, hg, hc⟩
        · omega
        obtain ⟨c0, c1, c2⟩ := hc k hkn
        have d0 := (HB.out.cell (p := ⟨g, _, none⟩) hg).trans c0
        have d1 := (HB.out.cell (p := ⟨g, _, none⟩) hg).trans c1
        have d2 := (HB.out.cell (p := ⟨g, _, none⟩) hg).trans c2
        obtain ⟨f0, f1⟩ := HF.out k hkn
        have HS' : Hid (okLine L k = true → ∀ j, j < k + 1 → okLine L j = true) := fun hsm j hj => by
          by_cases e : j = k
          · rw [e]; exact hsm
          · exact HS.out j (by omega)
        have HNO : Hid (okLine L k = false → linesB n L = false) := linesB_no hkn
        have H1 := fun W => impl_spot (L k).a (L k).s f0 f1 W
        have HOK : Hid (okLine L k = ((nameB (L k).a && nameB (L k).s) && rightB (L k).m && (decide (k = 0) || lessP (L (k - 1)).a (L (k - 1)).s (L k).a (L k).s))) := rfl
        obtain ⟨q, hq⟩ : ∃ q, q = L (k - 1) := ⟨_, rfl⟩
        have HQ : Hid (0 < k → w.cell? ⟨g, o + (k - 1) * 3, none⟩ = some (.string q.a) ∧ w.cell? ⟨g, o + (k - 1) * 3 + 1, none⟩ = some (.string q.s) ∧ w.cell? ⟨g, o + (k - 1) * 3 + 2, none⟩ = some (.int .i64 q.m)) := fun h => by rw [hq]; exact hc (k - 1) (by omega)
        rw [← hq] at HOK
        clear hc HS f0 f1 c0 c1 c2 hq
        generalize okLine L k = ok at *
        generalize (nameB (L k).a && nameB (L k).s) = A at *
        generalize (L k).a = x0 at *
        generalize (L k).s = x1 at *
        generalize (L k).m = x2 at *
        have H1 : Hid (∀ W, Calls Tryz.prog 51 #[.agg #[.string x0, .string x1]] W fun e w' => e = .returned (.bool A) ∧ Below W.heap.size W w') := H1
        have hgr : g < wr.heap.size := Nat.lt_of_lt_of_le hg HB.out.size
        go_wp2_with fail
        refine (H1.out _).mono ?_
        rintro e w1 ⟨rfl, hb1⟩
        have hz1 : wr.heap.size < w1.heap.size := by have := hb1.size; simp at this; omega
        have HB1 : Hid (Below w.heap.size w w1) := (HB.out.alloc HB.out.size _).trans (hb1.mono (by have := HB.out.size; simp; omega))
        have e0 : w1.cell? ⟨wr.heap.size, 0, none⟩ = some (.string x0) := (hb1.cell (p := ⟨wr.heap.size, 0, none⟩) (by simp)).trans (by simp)
        have e1 : w1.cell? ⟨wr.heap.size, 1, none⟩ = some (.string x1) := (hb1.cell (p := ⟨wr.heap.size, 1, none⟩) (by simp)).trans (by simp)
        have e2 : w1.cell? ⟨wr.heap.size, 2, none⟩ = some (.int .i64 x2) := (hb1.cell (p := ⟨wr.heap.size, 2, none⟩) (by simp)).trans (by simp)
        clear d0 d1 d2 hb1
        cases A
        · have HX : Hid (linesB n L = false) := HNO.out (by rw [HOK.out]; rfl)
          go_wp2_with fail
          go_ret
          exact ⟨ret_bool HX.out.symm, HB1.out⟩
        go_wp2_with fail
        refine (impl_right x2 _).mono ?_
        rintro e w2 ⟨rfl, rfl⟩
        cases hR : rightB x2
        · have HX : Hid (linesB n L = false) := HNO.out (by rw [HOK.out, hR]; rfl)
          go_wp2_with fail
          go_ret
          exact ⟨ret_bool HX.out.symm, HB1.out⟩
        rcases Nat.eq_zero_or_pos k with hk0 | hk0
        · subst hk0
          have HY : Hid (∀ j, j < 0 + 1 → okLine L j = true) := HS'.out (by rw [HOK.out, hR]; rfl)
          have u0 : decide ((0 : Int) < 0) = false := rfl
          clear HOK HS' HNO HQ
          go_upto_region 8 with fail
          have HBN : Hid (∀ d, Below w.heap.size w (w2.drewN d)) := fun d => ⟨HB1.out.os, HB1.out.tape, HB1.out.output, HB1.out.size, HB1.out.block⟩
          go_quiet (fail)
          go_wp2_with fail
          go_roundw
          case rel => exact ⟨0 + 1, by go_num, by omega, HY, HBN.out _⟩
          case measure => simp [intOf]; omega
        · obtain ⟨J, hJ⟩ : ∃ J : Nat, k = J + 1 := ⟨k - 1, by omega⟩
          have hJi : (k : Int) - 1 = (J : Int) := by omega
          have hJw : IntKind.i64.wrap (J : Int) = (J : Int) := IntWalk.i64_in _ (by omega)
          have hJ0 : (0 : Int) ≤ (J : Int) := by omega
          have hJ1 : (J : Int) < (n : Int) := by omega
          obtain ⟨q0, q1, q2⟩ := HQ.out hk0
          rw [show k - 1 = J by omega] at q0 q1 q2
          have r0 := (HB1.out.cell (p := ⟨g, _, none⟩) hg).trans q0
          have r1 := (HB1.out.cell (p := ⟨g, _, none⟩) hg).trans q1
          have r2 := (HB1.out.cell (p := ⟨g, _, none⟩) hg).trans q2
          have hJn : J < n := by omega
          have t0 : decide (0 < k) = true := by simpa using hk0
          have t1 : decide ((0 : Int) < (k : Int)) = true := by simpa using hk0
          have HOK2 : Hid (ok = lessP q.a q.s x0 x1) := by rw [Hid, HOK.out, hR]; simp; omega
          have HC := impl_cmp q.a q.s x0 x1 q.m x2
          have HCN : Hid (decide (0 ≤ cmpP q.a q.s x0 x1) = !lessP q.a q.s x0 x1) := cmpP_neg _ _ _ _
          obtain ⟨z0', z1'⟩ := cmpP_range q.a q.s x0 x1
          generalize cmpP q.a q.s x0 x1 = z at *
          generalize lessP q.a q.s x0 x1 = l at *
          generalize q.a = y0 at *
          generalize q.s = y1 at *
          generalize q.m = y2 at *
          have HC : Hid (∀ W, Calls Tryz.prog 68 #[.agg #[.string y0, .string y1, .int .i64 y2], .agg #[.string x0, .string x1, .int .i64 x2]] W fun e w' => e = .returned (.int .i64 z) ∧ Below W.heap.size W w') := HC
          have hgr2 : g < w2.heap.size := Nat.lt_of_lt_of_le hg HB1.out.size
          clear q0 q1 q2 HQ HOK hJ
          obtain ⟨Q, hQ⟩ : ∃ Q, Q = wr.heap.size := ⟨_, rfl⟩
          rw [← hQ] at e0 e1 e2 hz1 ⊢
          clear hQ
          go_upto_region 8 with fail
          go_region_held3 (fun V => V.cell? ⟨g, o + J * 3, none⟩ = some (.string y0) ∧ V.cell? ⟨g, o + J * 3 + 1, none⟩ = some (.string y1) ∧ V.cell? ⟨g, o + J * 3 + 2, none⟩ = some (.int .i64 y2) ∧ V.cell? ⟨Q, 0, none⟩ = some (.string x0) ∧ V.cell? ⟨Q, 1, none⟩ = some (.string x1) ∧ V.cell? ⟨Q, 2, none⟩ = some (.int .i64 x2)) (go_keep) (first | (go_at_call 68; refine (HC.out _).mono ?_; rintro e w3 ⟨rfl, hb⟩; have s0 : w3.cell? ⟨g, o + J * 3, none⟩ = some (.string y0) := (hb.cell (p := ⟨g, o + J * 3, none⟩) hgr2).trans r0; have s1 : w3.cell? ⟨g, o + J * 3 + 1, none⟩ = some (.string y1) := (hb.cell (p := ⟨g, o + J * 3 + 1, none⟩) hgr2).trans r1; have s2 : w3.cell? ⟨g, o + J * 3 + 2, none⟩ = some (.int .i64 y2) := (hb.cell (p := ⟨g, o + J * 3 + 2, none⟩) hgr2).trans r2; have s3 : w3.cell? ⟨Q, 0, none⟩ = some (.string x0) := (hb.cell (p := ⟨Q, 0, none⟩) hz1).trans e0; have s4 : w3.cell? ⟨Q, 1, none⟩ = some (.string x1) := (hb.cell (p := ⟨Q, 1, none⟩) hz1).trans e1; have s5 : w3.cell? ⟨Q, 2, none⟩ = some (.int .i64 x2) := (hb.cell (p := ⟨Q, 2, none⟩) hz1).trans e2))
          have HB3 : Hid (Below w.heap.size w w3) := HB1.out.trans (((Below.refl _ _).drew.trans hb).mono HB1.out.size)
          clear hb r0 r1 r2 e0 e1 e2 s0 s1 s2 s3 s4 s5
          cases l
          · have HX : Hid (linesB n L = false) := HNO.out HOK2.out
            have t2 : decide (0 ≤ z) = true := HCN.out
            have hz : 0 ≤ z := by simpa using t2
            have t3 : decide (z < 0) = false := by simp; omega
            go_wp2_with fail
            go_ret
            exact ⟨ret_bool HX.out.symm, HB3.out⟩
          · have HY : Hid (∀ j, j < k + 1 → okLine L j = true) := HS'.out HOK2.out
            have t2 : decide (0 ≤ z) = false := HCN.out
            have hz : z < 0 := by simpa using t2
            have t3 : decide (z < 0) = true := by simpa using hz
            go_wp2_with fail
            go_roundw
            case rel => exact ⟨k + 1, by go_num, by omega, HY, HB3⟩
            case measure => simp [intOf]; omega
      · have p0 : decide (k < n) = false := by simpa using hkn
        have p1 : decide ((k : Int) < (n : Int)) = false := by simpa using hkn
        obtain rfl : k = n := by omega
        go_wp2_with fail
        go_ret
        exact ⟨ret_bool (linesB_yes hlim HS.out).symm, HB.out⟩
  · have z0 : decide (60 < n) = true := by simp; omega
    have z1 : decide ((60 : Int) < (n : Int)) = true := by simp; omega
    go_enter Tryz.func53, Tryz.ntmps53
    go_wp2_with fail
    go_ret
    exact ⟨ret_bool (by simp [linesB, hlim]), Below.refl _ _⟩
end Go.Proofs.YtepkmbfedblhdaaGreatDoor
namespace Go.Proofs.YtepkmbfedblhdaaGreatDoor
open Ieee

/-- The bits of the float64 of a natural number. -/
def fl (n : Nat) : Nat := Ieee.double.nearest false n 0

theorem fl_zero : fl 0 = 0 := rfl

theorem log2_mul_two_pow {n : Nat} (h : n ≠ 0) (q : Nat) : (n * 2 ^ q).log2 = n.log2 + q := by
  rw [Nat.log2_eq_iff (by have := Nat.two_pow_pos q; exact Nat.mul_ne_zero h (by omega))]
  obtain ⟨h1, h2⟩ := (Nat.log2_eq_iff h).1 rfl
  constructor
  · rw [Nat.pow_add]; exact Nat.mul_le_mul_right _ h1
  · rw [show n.log2 + q + 1 = (n.log2 + 1) + q by omega, Nat.pow_add]; exact Nat.mul_lt_mul_of_pos_right h2 (Nat.two_pow_pos q)

theorem cut_zero (neg : Bool) (n : Nat) : Toward.even.cut neg n 0 = n := by
  simp [Toward.cut, Nat.mod_one]

theorem cut_exact (neg : Bool) (k drop : Nat) (h : k ≠ 0) : Toward.even.cut neg (k * 2 ^ drop) drop = k := by
  have hl := log2_mul_two_pow h drop
  have hp := Nat.two_pow_pos drop
  have hm : min drop ((k * 2 ^ drop).log2 + 2) = drop := by omega
  unfold Toward.cut
  simp only [hm, Nat.shiftLeft_eq, Nat.one_mul]
  rw [Nat.mul_div_cancel _ hp, Nat.mul_mod_left]
  have e1 : (2 ^ drop < 2 * 0) = False := by simp
  have e2 : (2 ^ drop == 2 * 0) = false := by simp
  simp [e2]

/-- The bits of a number, and what stands there. -/
theorem nearest_is {n : Nat} (h0 : n ≠ 0) (h1 : n < 2 ^ 53) (q : Nat) :
    Ieee.double.nearest false (n * 2 ^ q) (-(q : Int)) = (n.log2 + 1022) * 2 ^ 52 + n * 2 ^ (52 - n.log2) := by
  have hL : n.log2 < 53 := (Nat.log2_lt h0).2 h1
  obtain ⟨g1, g2⟩ := (Nat.log2_eq_iff h0).1 rfl
  have hk : n * 2 ^ (52 - n.log2) < 2 ^ 53 := by
    calc n * 2 ^ (52 - n.log2) < 2 ^ (n.log2 + 1) * 2 ^ (52 - n.log2) := Nat.mul_lt_mul_of_pos_right g2 (Nat.two_pow_pos _)
      _ = 2 ^ 53 := by rw [← Nat.pow_add]; congr 1; omega
  have hne : n * 2 ^ q ≠ 0 := Nat.mul_ne_zero h0 (by have := Nat.two_pow_pos q; omega)
  unfold Format.nearest
  rw [if_neg hne, log2_mul_two_pow h0]
  have elast : max (-(q : Int) + ((n.log2 + q : Nat) : Int) - (Ieee.double.fractionBits : Int)) Ieee.double.leastPlace = (n.log2 : Int) - 52 := by
    have e1 : Ieee.double.leastPlace = -1074 := by decide
    have e2 : Ieee.double.fractionBits = 52 := rfl
    rw [e1, e2]; omega
  dsimp only
  rw [elast]
  have ekept : Toward.even.cut false ((n * 2 ^ q) <<< (-(q : Int) - ((n.log2 : Int) - 52)).toNat) (((n.log2 : Int) - 52) - -(q : Int)).toNat = n * 2 ^ (52 - n.log2) := by
    rcases Nat.lt_or_ge (52 - n.log2) q with hq | hq
    · have e1 : (-(q : Int) - ((n.log2 : Int) - 52)).toNat = 0 := by omega
      have e2 : (((n.log2 : Int) - 52) - -(q : Int)).toNat = q - (52 - n.log2) := by omega
      rw [e1, e2, Nat.shiftLeft_zero]
      have e3 : n * 2 ^ q = n * 2 ^ (52 - n.log2) * 2 ^ (q - (52 - n.log2)) := by
        rw [Nat.mul_assoc, ← Nat.pow_add]; congr 2; omega
      rw [e3]
      exact cut_exact _ _ _ (Nat.mul_ne_zero h0 (by have := Nat.two_pow_pos (52 - n.log2); omega))
    · have e1 : (-(q : Int) - ((n.log2 : Int) - 52)).toNat = 52 - n.log2 - q := by omega
      have e2 : (((n.log2 : Int) - 52) - -(q : Int)).toNat = 0 := by omega
      rw [e1, e2, cut_zero, Nat.shiftLeft_eq, Nat.mul_assoc, ← Nat.pow_add]
      congr 2; omega
  rw [ekept]
  have e4 : ((n.log2 : Int) - 52 - Ieee.double.leastPlace).toNat = n.log2 + 1022 := by
    have e1 : Ieee.double.leastPlace = -1074 := by decide
    rw [e1]; omega
  rw [e4]
  have e5 : Ieee.double.binade = 2 ^ 52 := rfl
  have e6 : Ieee.double.infRung = 2047 * 2 ^ 52 := by decide
  rw [e5, e6]
  unfold Format.word
  simp only [Bool.false_eq_true, if_false]
  omega

theorem fl_is {n : Nat} (h0 : n ≠ 0) (h1 : n < 2 ^ 53) : fl n = (n.log2 + 1022) * 2 ^ 52 + n * 2 ^ (52 - n.log2) := by
  have := nearest_is h0 h1 0
  simpa [fl] using this

theorem nearest_fl {n : Nat} (h1 : n < 2 ^ 53) (q : Nat) : Ieee.double.nearest false (n * 2 ^ q) (-(q : Int)) = fl n := by
  by_cases h0 : n = 0
  · subst h0; simp [fl, Format.nearest]
  · rw [nearest_is h0 h1, fl_is h0 h1]

/-- What is read: n times 2^q at the place -q. -/
theorem read_fl {n : Nat} (h1 : n < 2 ^ 53) : ∃ q : Nat, q ≤ 1074 ∧ ∃ m : Nat, ∃ p : Int, Ieee.double.read (fl n) = .number false m p ∧ p = -(q : Int) ∧ m = n * 2 ^ q := by
  by_cases h0 : n = 0
  · subst h0
    obtain ⟨q, hq⟩ : ∃ q : Nat, q = 1074 := ⟨_, rfl⟩
    exact ⟨q, by omega, 0, -1074, by decide, by omega, (Nat.zero_mul _).symm⟩
  · have hL : n.log2 < 53 := (Nat.log2_lt h0).2 h1
    obtain ⟨g1, g2⟩ := (Nat.log2_eq_iff h0).1 rfl
    have hk : n * 2 ^ (52 - n.log2) < 2 ^ 53 := by
      calc n * 2 ^ (52 - n.log2) < 2 ^ (n.log2 + 1) * 2 ^ (52 - n.log2) := Nat.mul_lt_mul_of_pos_right g2 (Nat.two_pow_pos _)
        _ = 2 ^ 53 := by rw [← Nat.pow_add]; congr 1; omega
    have hk' : 2 ^ 52 ≤ n * 2 ^ (52 - n.log2) := by
      calc 2 ^ 52 = 2 ^ n.log2 * 2 ^ (52 - n.log2) := by rw [← Nat.pow_add]; congr 1; omega
        _ ≤ n * 2 ^ (52 - n.log2) := Nat.mul_le_mul_right _ g1
    rw [fl_is h0 h1]
    generalize hkk : n * 2 ^ (52 - n.log2) = k at *
    refine ⟨52 - n.log2, by omega, k, (n.log2 : Int) - 52, ?_, by omega, hkk.symm⟩
    have e1 : Ieee.double.leastPlace = -1074 := by decide
    have e3 : Ieee.double.signWeight = 2 ^ 63 := by decide
    have e5 : Ieee.double.binade = 2 ^ 52 := rfl
    have e6 : Ieee.double.infRung = 2047 * 2 ^ 52 := by decide
    unfold Format.read
    rw [e1, e3, e5, e6]
    dsimp only
    have d1 : ((n.log2 + 1022) * 2 ^ 52 + k) / 2 ^ 63 % 2 = 0 := by omega
    have d2 : ((n.log2 + 1022) * 2 ^ 52 + k) % 2 ^ 63 = (n.log2 + 1022) * 2 ^ 52 + k := by omega
    rw [d1, d2, if_neg (by omega), if_pos (by omega)]
    have d3 : ((n.log2 + 1022) * 2 ^ 52 + k) % 2 ^ 52 = k - 2 ^ 52 := by omega
    have d4 : ((n.log2 + 1022) * 2 ^ 52 + k) / 2 ^ 52 = n.log2 + 1023 := by omega
    rw [d3, d4]
    have d5 : 2 ^ 52 + (k - 2 ^ 52) = k := by omega
    have d6 : (-1074 : Int) + ((n.log2 + 1023 - 1 : Nat) : Int) = (n.log2 : Int) - 52 := by omega
    rw [d5, d6]
    rfl

theorem shl_pow (n q b : Nat) (h : q ≤ b) : (n * 2 ^ q) <<< (-(q : Int) - -(b : Int)).toNat = n * 2 ^ b := by
  rw [show (-(q : Int) - -(b : Int)).toNat = b - q by omega, Nat.shiftLeft_eq, Nat.mul_assoc, ← Nat.pow_add]
  congr 2; omega

/-- '+' is exact. -/
theorem fl_add {a b : Nat} (h : a + b < 2 ^ 53) : floatBits .add .f64 (fl a) (fl b) = some (fl (a + b)) := by
  obtain ⟨q, _, m, p, hr, rfl, rfl⟩ := read_fl (n := a) (by omega)
  obtain ⟨r, _, m', p', hr', rfl, rfl⟩ := read_fl (n := b) (by omega)
  show Ieee.double.add (fl a) (fl b) = _
  unfold Format.add
  rw [hr, hr']
  simp only [Datum.sum, Option.map_some, Format.write]
  congr 1
  have hb : min (-(q : Int)) (-(r : Int)) = -((max q r : Nat) : Int) := by omega
  rw [hb]
  simp only [signed, Bool.false_eq_true, if_false]
  rw [shl_pow _ _ _ (Nat.le_max_left ..), shl_pow _ _ _ (Nat.le_max_right ..)]
  generalize max q r = t
  have e : ((a * 2 ^ t : Nat) : Int) + ((b * 2 ^ t : Nat) : Int) = (((a + b) * 2 ^ t : Nat) : Int) := by
    rw [Nat.add_mul]; push_cast; rfl
  rw [e]
  have e' : (if ((((a + b) * 2 ^ t : Nat) : Int)) = 0 then (false && false) else decide ((((a + b) * 2 ^ t : Nat) : Int) < 0)) = false := by
    split
    · rfl
    · exact decide_eq_false (by omega)
  rw [e', Int.natAbs_natCast]
  exact nearest_fl h t

/-- The order is that of the numbers. -/
theorem fl_order {a b : Nat} (ha : a < 2 ^ 53) (hb : b < 2 ^ 53) : Ieee.double.order (fl a) (fl b) = some (compare a b) := by
  obtain ⟨q, _, m, p, hr, rfl, rfl⟩ := read_fl ha
  obtain ⟨r, _, m', p', hr', rfl, rfl⟩ := read_fl hb
  unfold Format.order
  rw [hr, hr']
  simp only [Datum.order]
  congr 1
  have hb : min (-(q : Int)) (-(r : Int)) = -((max q r : Nat) : Int) := by omega
  rw [hb]
  simp only [signed, Bool.false_eq_true, if_false]
  rw [shl_pow _ _ _ (Nat.le_max_left ..), shl_pow _ _ _ (Nat.le_max_right ..)]
  have hp := Nat.two_pow_pos (max q r)
  generalize 2 ^ max q r = t at *
  rcases Nat.lt_trichotomy a b with h | h | h
  · have h' : a * t < b * t := Nat.mul_lt_mul_of_pos_right h hp
    rw [Nat.compare_eq_lt.2 h, Int.compare_eq_lt.2 (by exact_mod_cast h')]
  · subst h; simp
  · have h' : b * t < a * t := Nat.mul_lt_mul_of_pos_right h hp
    rw [Nat.compare_eq_gt.2 h, Int.compare_eq_gt.2 (by exact_mod_cast h')]

theorem fl_neq {a b : Nat} (ha : a < 2 ^ 53) (hb : b < 2 ^ 53) : (Ieee.double.order (fl a) (fl b) != some .eq) = decide (a ≠ b) := by
  rw [fl_order ha hb]
  rcases Nat.lt_trichotomy a b with h | h | h
  · rw [Nat.compare_eq_lt.2 h, decide_eq_true (Nat.ne_of_lt h)]; rfl
  · subst h; simp
  · rw [Nat.compare_eq_gt.2 h, decide_eq_true (Nat.ne_of_gt h)]; rfl

theorem near_fl (n : Nat) : FloatKind.f64.nearest (n : Int) = fl n := by
  show Ieee.double.write (.number (decide ((n : Int) < 0)) (n : Int).natAbs 0) = _
  have e : decide ((n : Int) < 0) = false := decide_eq_false (by omega)
  rw [e]; rfl

end Go.Proofs.YtepkmbfedblhdaaGreatDoor
namespace Go.Proofs.YtepkmbfedblhdaaGreatDoor
open Go.RowKit
open Go.Proofs.YtepkmbfedblhdaaGreatDoor.Draw

/-- What is counted: taken, put. -/
def takeI (r : Nat) (x : Int) : Nat := if x < 0 then r + x.natAbs else r
def putI (i : Nat) (x : Int) : Nat := if x < 0 then i else i + x.natAbs
theorem sum_run (r i r' i' : Nat) (h : r + r' < 2 ^ 53) (h' : i + i' < 2 ^ 53) (t : TypeId) (w : World) : (binOp .add t (.complex .f64 (fl r) (fl i)) (.complex .f64 (fl r') (fl i'))).run Tryz.prog w = .ok (.complex .f64 (fl (r + r')) (fl (i + i'))) w := by
  refine run_complex_sum w .add (Or.inl rfl) t .f64 _ _ _ _ _ _ ?_
  unfold cSumBits
  rw [fl_add h, fl_add h']
  rfl
theorem store_cx (a : Addr) (x y : Nat) (old : Value) (w : World) (hc : w.cell? a = some old) (hf : w.frozen? a = false) : (store a (.complex .f64 x y)).run Tryz.prog w = .ok () (w.setCell a (.complex .f64 x y)) := by
  rw [run_store Tryz.prog w a _ _ (by rfl)]
  simp [hc, hf]
set_option maxRecDepth 100000 in
set_option maxHeartbeats 4000000 in
theorem impl_count (B : Nat) (r i : Nat) (x : Int) (hx0 : -1000000000000 ≤ x) (hx1 : x ≤ 1000000000000) (hr : r ≤ 1000000000000000) (hi : i ≤ 1000000000000000) (w : World) (hc : w.cell? ⟨B, 3, none⟩ = some (.complex .f64 (fl r) (fl i))) (hf : w.frozen? ⟨B, 3, none⟩ = false) :
    Calls Tryz.prog 56 #[.pointer (some ⟨B, 0, none⟩), .int .i64 x] w fun e w' => e = .returned (.tuple #[]) ∧ w' = w.setCell ⟨B, 3, none⟩ (.complex .f64 (fl (takeI r x)) (fl (putI i x))) := by
  have hst := fun x y => store_cx ⟨B, 3, none⟩ x y _ w hc hf
  by_cases hx : x < 0
  · have q0 : decide (x < 0) = true := by simpa using hx
    obtain ⟨n, hn⟩ : ∃ n : Nat, -x = (n : Int) := ⟨x.natAbs, by omega⟩
    have hn2 : x.natAbs = n := by omega
    have hs := fun t w => sum_run r i n 0 (by omega) (by omega) t w
    have hnr : floatOfInt .f64 (n : Int) = fl n := near_fl n
    have HE : Hid (takeI r x = r + n ∧ putI i x = i) := by simp [Hid, takeI, putI, hx, hn2]
    rw [fl_zero, Nat.add_zero] at hs
    clear hn2
    go_enter Tryz.func56, Tryz.ntmps56
    go_wp2_with fail
    refine bodyPost_end (v := .tuple #[]) ?_ rfl ⟨rfl, ?_⟩
    · simp [results, Tryz.results56]
    · rw [HE.out.1, HE.out.2]
  · have q0 : decide (x < 0) = false := by simpa using hx
    obtain ⟨n, rfl⟩ : ∃ n : Nat, x = (n : Int) := ⟨x.natAbs, by omega⟩
    have hs := fun t w => sum_run r i 0 n (by omega) (by omega) t w
    have hnr : floatOfInt .f64 (n : Int) = fl n := near_fl n
    have HE : Hid (takeI r (n : Int) = r ∧ putI i (n : Int) = i + n) := by
      have : ¬ ((n : Int) < 0) := by omega
      simp [Hid, takeI, putI, this]
    rw [fl_zero, Nat.add_zero] at hs
    go_enter Tryz.func56, Tryz.ntmps56
    go_wp2_with fail
    refine bodyPost_end (v := .tuple #[]) ?_ rfl ⟨rfl, ?_⟩
    · simp [results, Tryz.results56]
    · rw [HE.out.1, HE.out.2]
set_option maxRecDepth 100000 in
set_option maxHeartbeats 4000000 in
theorem impl_settled (B : Nat) (r i : Nat) (hr : r ≤ 1000000000000000) (hi : i ≤ 1000000000000000) (w : World) (hc : w.cell? ⟨B, 3, none⟩ = some (.complex .f64 (fl r) (fl i))) :
    Calls Tryz.prog 57 #[.pointer (some ⟨B, 0, none⟩)] w fun e w' => e = .returned (if r = i then .nilIface else .iface 94 (.agg #[.int .i64 1])) ∧ ∃ d, w' = w.drewN d := by
  have hq := fl_neq (a := r) (b := i) (by omega) (by omega)
  by_cases h : r = i
  · have HE : Hid ((if r = i then Value.nilIface else .iface 94 (.agg #[.int .i64 1])) = .nilIface) := if_pos h
    have t0 : (FloatKind.f64.format.order (fl r) (fl i) != some .eq) = false := by rw [show FloatKind.f64.format = Ieee.double from rfl, hq]; simpa using h
    rw [HE.out]
    clear h hq
    go_enter Tryz.func57, Tryz.ntmps57
    go_upto_region 1 with fail
    go_quiet (fail)
    go_wp2_with fail
    go_ret
    exact ⟨rfl, ⟨_, rfl⟩⟩
  · have HE : Hid ((if r = i then Value.nilIface else .iface 94 (.agg #[.int .i64 1])) = .iface 94 (.agg #[.int .i64 1])) := if_neg h
    have t0 : (FloatKind.f64.format.order (fl r) (fl i) != some .eq) = true := by rw [show FloatKind.f64.format = Ieee.double from rfl, hq]; simpa using h
    rw [HE.out]
    clear h hq
    go_enter Tryz.func57, Tryz.ntmps57
    go_upto_region 1 with fail
    go_quiet (fail)
    go_wp2_with fail
    go_ret
    exact ⟨rfl, ⟨_, rfl⟩⟩
end Go.Proofs.YtepkmbfedblhdaaGreatDoor
namespace Go.Proofs.YtepkmbfedblhdaaGreatDoor
open Go.RowKit Go.Maps
open Go.Proofs.YtepkmbfedblhdaaGreatDoor.Draw

theorem laidOutX : laidOutB Tryz.prog = true := by kernel_rfl
theorem keySpot : Keyed Tryz.prog 57 := Keyed.of_law (deep_law_laid laidOutX (m := 3) (by omega) (of_decide_eq_true (by kernel_rfl)) (by kernel_rfl) (by kernel_rfl))
/-- A spot as a key. -/
def spotK (a s : ByteArray) : Lit := .string (keyBytes [.string a.data.toList, .string s.data.toList])
theorem cellsSp : Tryz.prog.cellsOf 57 = 2 := by kernel_rfl
theorem cellsSt : Tryz.prog.cellsOf 9 = 1 := by kernel_rfl
theorem formedSp (a s : ByteArray) : (Tryz.prog.keyType 57 && (Value.agg #[.string a, .string s]).formed Tryz.prog 57) = true := by kernel_rfl
theorem litsSt (d : Nat) (a : ByteArray) (ha : a.size ≤ maxLen) : Tryz.prog.keyLits (d + 1) 9 [.string a] = some [.string a.data.toList] := by
  unfold Program.keyLits
  simp only [Tryz.underlying9]
  rw [if_pos ha]
theorem spotK_of (a s : ByteArray) (ha : a.size ≤ maxLen) (hs : s.size ≤ maxLen) : keyOf Tryz.prog 57 (.agg #[.string a, .string s]) = some (spotK a s) := by
  obtain ⟨N, hd⟩ : ∃ N, Tryz.prog.types.size = N + 1 := ⟨177 - 1, by kernel_rfl⟩
  unfold keyOf
  rw [Tryz.underlying57]
  simp only [formedSp, if_true]
  rw [hd]
  unfold Program.keyLits
  simp only [Tryz.underlying57]
  simp [Value.cells, cellsSp, cellsSt, litsSt _ a ha, litsSt _ s hs, spotK]
/-- The map of the first k lines. -/
def placesD (L : Nat → Ln) : Nat → DataW Unit
  | 0 => .map []
  | k + 1 => (placesD L k).put (spotK (L k).a (L k).s) (.lit (.int .i64 (k : Int)))
theorem step_put {H : Type} {P : Program} (w : World) {ops : Array Oper} {o : Oper} {a : Act} {K : Act → World → Prop} {Q : Exit → Act → World → Prop} {E : Prop} (hgd : o.guard = none) (m x v : Operand) (t : TypeId) (ho : o.op = Op.mapUpdate t m x v)
    (k e : TypeId) (Kd : Keyed P k) (ht : P.underlying t = some (.map k e)) (R : Value → Option (DataW H × List MemPlace)) (b n : Nat) (D : DataW H)
    (hm : a.eval m = .map (some b)) (hown : w.ownsMap P k R b n D) (hn : n < maxLen) (key val : Value) (kl : Lit) (hx : a.eval x = key) (hv : a.eval v = val) (hkey : keyOf P k key = some kl)
    (d : DataW H) (ps : List MemPlace) (hval : R val = some (d, ps))
    (h : ∀ w', w'.ownsMap P k R b (n + 1) (D.put kl d) → w.grownBy w' (some b) → K (a.put o.dst undef) w') :
    if Region.wanted o (yielded ops a.tmps) = true then Oper.wp P o a w K Q else E := by
  have hw : Region.wanted o (yielded ops a.tmps) = true := by simp [Region.wanted, hgd]
  rw [if_pos hw]
  obtain ⟨w', hrun, r1, r2⟩ := hown.update Kd ht hn hkey hval
  unfold Oper.wp
  simp [execOp, ho, hm, hx, hv, hrun, Result.andThen]
  exact h w' r1 r2
theorem make_map (n : Int) (w : World) : (Instr.makeMap 61 (some (.int .i64 n))).run Tryz.prog w = .ok (.map (some w.heap.size)) (w.alloc (.map #[] 0)) := by kernel_rfl
set_option maxRecDepth 100000 in
set_option maxHeartbeats 4000000 in
theorem impl_index (B : Nat) (a : Option Addr) (n cap : Nat) (L : Nat → Ln) (hn : n ≤ 60) (hfit : ∀ i, i < n → (L i).fits) (old : Value) (w : World) (h : LinesAt w a n L) (hne : ∀ k, a.map Addr.block = some k → k ≠ B) (hB : B < w.heap.size) (h0 : w.cell? ⟨B, 0, none⟩ = some (.slice a n cap)) (h2 : w.cell? ⟨B, 2, none⟩ = some old) (hf : w.frozen? ⟨B, 2, none⟩ = false) :
    Calls Tryz.prog 55 #[.pointer (some ⟨B, 0, none⟩)] w fun e w' => e = .returned (.tuple #[]) ∧ ∃ M, w.heap.size ≤ M ∧ w'.cell? ⟨B, 2, none⟩ = some (.map (some M)) ∧ w'.ownsMap Tryz.prog 57 (plainElem Tryz.prog 3) M n (placesD L n) ∧ w.grownBy w' (some B) ∧ (∀ j, j ≠ 2 → w'.cell? ⟨B, j, none⟩ = w.cell? ⟨B, j, none⟩) ∧ (∀ j, w'.frozen? ⟨B, j, none⟩ = w.frozen? ⟨B, j, none⟩) := by
  have HL : Hid (LinesAt w a n L) := h
  have HNE : Hid (∀ k, a.map Addr.block = some k → k ≠ B) := hne
  have HF : Hid (∀ i, i < n → (L i).fits) := hfit
  clear h hne hfit
  have hBM : w.heap.size ≠ B := by omega
  have hmk := make_map (n : Int) w
  go_enter Tryz.func55, Tryz.ntmps55
  go_wp2_with fail
  obtain ⟨w1, hw1⟩ : ∃ w1, w1 = (w.setCell ⟨B, 2, none⟩ (.map (some w.heap.size))).alloc (.map #[] 0) := ⟨_, rfl⟩
  have HG1 : Hid (w.grownBy w1 (some B)) := by
    rw [Hid, hw1]
    exact ⟨rfl, rfl, rfl, by simp, fun k hk hne => by
      rw [Below.heap_alloc _ _ _ (by simpa using hk), heap_setCell_other _ _ _ _ (by simpa using hne)]⟩
  have HC2 : Hid (w1.cell? ⟨B, 2, none⟩ = some (.map (some w.heap.size))) := by
    rw [Hid, hw1, World.cell?_alloc_past _ _ _ (by simpa using hB)]; simp [go_sem, h2]
  have HCJ : Hid (∀ j, j ≠ 2 → w1.cell? ⟨B, j, none⟩ = w.cell? ⟨B, j, none⟩) := fun j hj => by
    rw [hw1, World.cell?_alloc_past _ _ _ (by simpa using hB), World.cell?_setCell_other _ _ _ _ (by first | (simp; done) | (simp; omega))]
  have HFJ : Hid (∀ j, w1.frozen? ⟨B, j, none⟩ = w.frozen? ⟨B, j, none⟩) := fun j => by
    rw [hw1, World.frozen?_alloc_past _ _ _ (by simpa using hB)]; simp
  have HO1 : Hid (w1.ownsMap Tryz.prog 57 (plainElem Tryz.prog 3) w.heap.size 0 (placesD L 0)) := by
    rw [Hid, hw1]; have := World.ownsMap_made (H := Unit) (w.setCell ⟨B, 2, none⟩ (.map (some w.heap.size))) Tryz.prog 57 (plainElem Tryz.prog 3); rw [show placesD L 0 = DataW.map [] from rfl]; simpa using this
  have HS1 : Hid (w.heap.size < w1.heap.size) := by rw [Hid, hw1]; simp
  rw [← hw1]
  clear hw1 hmk h2 hf
  obtain ⟨M, hM⟩ : ∃ M, M = w.heap.size := ⟨_, rfl⟩
  rw [← hM] at HC2 HO1 HS1 hBM ⊢
  have HMw : Hid (M = w.heap.size) := hM
  clear hM h0
  go_loopw [20] (fun i wr => ∃ k : Nat, i = .int .i64 (k : Int) ∧ k ≤ n ∧ Hid (wr.ownsMap Tryz.prog 57 (plainElem Tryz.prog 3) M k (placesD L k)) ∧ Hid (w1.grownBy wr (some M))) (fun i _ => n - (intOf i).toNat)
  case atStart => exact ⟨0, rfl, by omega, HO1, World.grownBy.refl _ _⟩
  case round =>
    obtain ⟨k, rfl, hk, HO, HG⟩ := hrel
    have cM : wr.cell? ⟨B, 2, none⟩ = some (.map (some M)) := HG.out.cell (a := ⟨B, 2, none⟩) HC2.out (by simp; omega)
    by_cases hkn : k < n
    · have p0 : decide (k < n) = true := by simpa using hkn
      have p1 : decide ((k : Int) < (n : Int)) = true := by simpa using hkn
      rcases HL.out with h0 | ⟨g, o, rfl, hg, hc⟩
      · omega
      have hgB : g ≠ B := HNE.out g rfl
      have hgM : g ≠ M := by have := HMw.out; omega
      obtain ⟨c0, c1, c2⟩ := hc k hkn
      have up : ∀ j v, w.cell? ⟨g, j, none⟩ = some v → wr.cell? ⟨g, j, none⟩ = some v := fun j v h => HG.out.cell (a := ⟨g, j, none⟩) (HG1.out.cell (a := ⟨g, j, none⟩) h (by simp; omega)) (by simp; omega)
      have d0 := up _ _ c0
      have d1 := up _ _ c1
      have d2 := up _ _ c2
      obtain ⟨f0, f1⟩ := HF.out k hkn
      have HK : Hid (keyOf Tryz.prog 57 (.agg #[.string (L k).a, .string (L k).s]) = some (spotK (L k).a (L k).s)) := spotK_of _ _ f0 f1
      have HP : Hid (placesD L (k + 1) = (placesD L k).put (spotK (L k).a (L k).s) (.lit (.int .i64 (k : Int)))) := rfl
      clear hc c0 c1 c2 up f0 f1
      generalize spotK (L k).a (L k).s = kl at *
      generalize (L k).a = x0 at *
      generalize (L k).s = x1 at *
      generalize (L k).m = x2 at *
      have hBr : B < wr.heap.size := World.block_lt_of_cell? _ _ cM
      have hne : wr.heap.size ≠ B := by omega
      have hMr : M < wr.heap.size := Nat.lt_of_lt_of_le HS1.out HG.out.size
      go_upto_region 4 with fail
      obtain ⟨V, hV⟩ : ∃ V, V = wr.alloc (.cells #[.string x0, .string x1, .int .i64 x2] 84) := ⟨_, rfl⟩
      have hb : Below wr.heap.size wr V := by rw [hV]; exact (Below.refl _ _).alloc (Nat.le_refl _) _
      have e0 : V.cell? ⟨wr.heap.size, 0, none⟩ = some (.string x0) := by rw [hV]; simp
      have e1 : V.cell? ⟨wr.heap.size, 1, none⟩ = some (.string x1) := by rw [hV]; simp
      have eM : V.cell? ⟨B, 2, none⟩ = some (.map (some M)) := (hb.cell (p := ⟨B, 2, none⟩) hBr).trans cM
      have HOV : Hid (V.ownsMap Tryz.prog 57 (plainElem Tryz.prog 3) M k (placesD L k)) := HO.out.kept (row := none) ⟨hb.os, hb.tape, hb.output, hb.size, fun q hq _ => hb.block q hq⟩ (by simp)
      have HGV : Hid (w1.grownBy V (some M)) := ⟨hb.os.trans HG.out.os, hb.tape.trans HG.out.tape, hb.output.trans HG.out.output, Nat.le_trans HG.out.size hb.size, fun q hq hne => (hb.block q (Nat.lt_of_lt_of_le hq HG.out.size)).trans (HG.out.block q hq hne)⟩
      rw [← hV]
      clear hV hb cM d0 d1 d2
      obtain ⟨Q, hQ⟩ : ∃ Q, Q = wr.heap.size := ⟨_, rfl⟩
      have hQM : Q ≠ M := by omega
      have hBM2 : B ≠ M := by omega
      rw [← hQ] at e0 e1 ⊢
      clear hQ hne
      have hwf : (Lit.int .i64 (k : Int)).wf = true := WalkArith.wf_i64 (by omega)
      have HWF : Hid (plainElem (H := Unit) Tryz.prog 3 (.int .i64 (k : Int)) = some (.lit (.int .i64 (k : Int)), [])) := plainElem_int Tryz.underlying3 hwf
      clear hwf
      obtain ⟨w3, hrun, hown3, hg3⟩ := HOV.out.drew.update keySpot Tryz.underlying61 (by unfold maxLen; omega) HK.out HWF.out
      have s0 : w3.cell? ⟨B, 2, none⟩ = some (.map (some M)) := hg3.cell (a := ⟨B, 2, none⟩) eM (by simpa using hBM2)
      have s1 : w3.cell? ⟨Q, 0, none⟩ = some (.string x0) := hg3.cell (a := ⟨Q, 0, none⟩) e0 (by simpa using hQM)
      have s2 : w3.cell? ⟨Q, 1, none⟩ = some (.string x1) := hg3.cell (a := ⟨Q, 1, none⟩) e1 (by simpa using hQM)
      rw [← HP.out] at hown3
      have HO3 : Hid (w3.ownsMap Tryz.prog 57 (plainElem Tryz.prog 3) M (k + 1) (placesD L (k + 1))) := hown3
      have HG3 : Hid (w1.grownBy w3 (some M)) := ⟨hg3.os.trans HGV.out.os, hg3.tape.trans HGV.out.tape, hg3.output.trans HGV.out.output, Nat.le_trans HGV.out.size hg3.size, fun q hq hne => (hg3.block q (Nat.lt_of_lt_of_le hq HGV.out.size) hne).trans (HGV.out.block q hq hne)⟩
      clear hown3 hg3 HO HG HGV HOV HK HP HWF
      go_region_held3 (fun W => W.cell? ⟨B, 2, none⟩ = some (.map (some M)) ∧ W.cell? ⟨Q, 0, none⟩ = some (.string x0) ∧ W.cell? ⟨Q, 1, none⟩ = some (.string x1)) (go_keep) (fail)
      go_wp2_with fail
      go_roundw
      case rel => exact ⟨k + 1, by go_num, by omega, HO3, HG3⟩
      case measure => simp [intOf]; omega
    · have p0 : decide (k < n) = false := by simpa using hkn
      have p1 : decide ((k : Int) < (n : Int)) = false := by simpa using hkn
      obtain rfl : k = n := by omega
      go_wp2_with fail
      refine bodyPost_end (v := .tuple #[]) ?_ rfl ⟨rfl, M, by have := HMw.out; omega, cM, HO.out, ?_, ?_, ?_⟩
      · simp [results, Tryz.results55]
      · exact ⟨HG.out.os.trans HG1.out.os, HG.out.tape.trans HG1.out.tape, HG.out.output.trans HG1.out.output, Nat.le_trans HG1.out.size HG.out.size, fun q hq hne => (HG.out.block q (Nat.lt_of_lt_of_le hq HG1.out.size) (by have := HMw.out; simp; omega)).trans (HG1.out.block q hq hne)⟩
      · intro j hj
        rw [World.cell?_of_block (a := ⟨B, j, none⟩) (HG.out.block B (Nat.lt_of_lt_of_le hB HG1.out.size) (by simp; omega))]; exact HCJ.out j hj
      · intro j
        rw [World.frozen?_of_block (a := ⟨B, j, none⟩) (HG.out.block B (Nat.lt_of_lt_of_le hB HG1.out.size) (by simp; omega))]; exact HFJ.out j
end Go.Proofs.YtepkmbfedblhdaaGreatDoor
namespace Go.Proofs.YtepkmbfedblhdaaGreatDoor
open Go.RowKit
open Go.Proofs.YtepkmbfedblhdaaGreatDoor.Draw

def textsC (I : Nat → Tx) : Nat → List Value
  | 0 => []
  | k + 1 => textsC I k ++ [.string (I k).t]
theorem textsC_len (I : Nat → Tx) (k : Nat) : (textsC I k).length = k * 1 := by
  induction k with
  | zero => rfl
  | succ k ih => rw [textsC, List.length_append, ih]; simp
theorem textsC_at (I : Nat → Tx) (k j : Nat) (h : j < k) : (textsC I k)[j]? = some (textF I j) := by
  induction k with
  | zero => omega
  | succ k ih =>
    rw [textsC]
    by_cases hj : j < k
    · rw [List.getElem?_append_left (by rw [textsC_len]; omega)]; exact ih hj
    · obtain rfl : j = k := by omega
      rw [List.getElem?_append_right (by rw [textsC_len]; omega), textsC_len, show j - j * 1 = 0 by omega, textF_at]; rfl
theorem news_texts {w : World} {g o n : Nat} {I : Nat → Tx} (h : TextsAt w (some ⟨g, o, none⟩) n I) : ∀ j u, (textsC I n)[j]? = some u → w.cell? ((⟨g, o, none⟩ : Addr).add j) = some u := by
  intro j u hj
  have hlt : j < n := by have := (List.getElem?_eq_some_iff.1 hj).1; rw [textsC_len] at this; omega
  rw [textsC_at I n j hlt] at hj
  rw [add_off, ← hj]
  rcases h with h0 | ⟨g', o', e, _, hc⟩
  · omega
  · simp at e
    obtain ⟨rfl, rfl⟩ := e
    rw [textF_at]; exact hc j hlt
theorem ones_texts (I : Nat → Tx) (n : Nat) : ∀ u ∈ textsC I n, u.oneCell' = true := by
  induction n with
  | zero => intro u hu; simp [textsC] at hu
  | succ n ih =>
    intro u hu
    rw [textsC, List.mem_append] at hu
    rcases hu with hu | hu
    · exact ih u hu
    · simp at hu; subst hu; rfl
/-- An owned row of texts. -/
theorem own_texts {w : World} {B n : Nat} {v : Value} {I : Nat → Tx} (h : w.ownsRow B 9 1 v n (textsC I n)) : ∃ a cap, v = .slice a n cap ∧ OwnR w a n 1 (textF I) ∧ ∀ k, a.map Addr.block = some k → B ≤ k ∧ k < w.heap.size := by
  obtain ⟨_, ⟨rfl, rfl⟩ | ⟨g, cap, cur, rfl, hB, hblk, _⟩⟩ := id h
  · exact ⟨none, 0, rfl, Or.inl rfl, fun k e => by cases e⟩
  · refine ⟨_, cap, rfl, Or.inr ⟨g, rfl, (own_row h (fun j hj => textsC_at I n j (by omega))).1⟩, fun k e => ?_⟩
    simp at e
    subst e
    exact ⟨hB, (Array.getElem?_eq_some_iff.1 hblk).1⟩
theorem OwnR.texts {w : World} {a : Option Addr} {n : Nat} {I : Nat → Tx} (h : OwnR w a n 1 (textF I)) : TextsAt w a n I := by
  rcases h with h | ⟨g, rfl, hO⟩
  · exact Or.inl h
  · rw [Nat.mul_one] at hO; exact hO.texts
/-- What marked texts' cells read. -/
def mkT (k0 : Nat) (j : Nat) : Value := .string (mtx (k0 + j))
set_option maxRecDepth 100000 in
set_option maxHeartbeats 4000000 in
theorem mark_texts (a : Option Addr) (n cap : Nat) (F : Nat → Value) (hn : n ≤ 1048576) (k0 : Nat) (hk1 : 1 ≤ k0) (hk2 : k0 ≤ 549755813888) (w : World) (h : OwnR w a n 1 F) :
    Calls Tryz.prog 37 #[.slice a n cap, .int .i64 (k0 : Int)] w fun e w' => e = .returned (.int .i64 ((k0 + n : Nat) : Int)) ∧ OwnR w' a n 1 (mkT k0) ∧ w.grownBy w' (a.map Addr.block) := by
  rcases h with h0 | ⟨g, rfl, hO⟩
  · subst h0
    go_enter Tryz.func37, Tryz.ntmps37
    go_wp2_with fail
    refine wp_loop_rounds 1 ?_
    rw [rounds_succ]
    go_wp2
    go_ret
    exact ⟨ret_int (by omega), Or.inl rfl, World.grownBy.refl _ _⟩
  rw [Nat.mul_one] at hO
  have HO : Hid (Own w g n F) := hO
  clear hO
  go_enter Tryz.func37, Tryz.ntmps37
  go_wp2_with fail
  go_loopw [1, 5] (fun x i wr => ∃ I K : Nat, x = .int .i64 (K : Int) ∧ i = .int .i64 (I : Int) ∧ I ≤ n ∧ K = k0 + I ∧ Hid (Own wr g n (fun j => if j < I then mkT k0 j else F j)) ∧ Hid (w.grownBy wr (some g))) (fun _ i _ => n - (intOf i).toNat)
  case atStart => exact ⟨0, k0, rfl, rfl, by omega, by omega, HO.out.congr (fun j _ => by rw [if_neg (by omega)]), World.grownBy.refl _ _⟩
  case round =>
    obtain ⟨I, K, rfl, rfl, hI, hK, HOr, HG⟩ := hrel
    by_cases hin : I < n
    · have p0 : decide (I < n) = true := by simpa using hin
      have p1 : decide ((I : Int) < (n : Int)) = true := by simpa using hin
      have HE : Hid (mkT k0 I = .string (mtx K)) := by rw [hK]; rfl
      have hKb : K ≤ 1099511627000 := by omega
      have hK1 : 1 ≤ K := by omega
      have HK : Hid (K = k0 + I) := hK
      clear hK
      have M0 := fun z hz W => mark_text' z K hz (by omega) (by omega) W
      generalize mtx K = T0 at *
      have M0 : Hid (∀ z, z = ((K : Nat) : Int) → ∀ W, Calls Tryz.prog 38 #[.int .i64 z] W fun e w' => e = .returned (.string T0) ∧ Below W.heap.size W w') := M0
      go_wp2_with fail
      refine (M0.out _ (by omega) _).mono ?_
      rintro e w1 ⟨rfl, hb⟩
      have HO0 := HOr.out.below hb
      obtain ⟨y0, hc0⟩ : ∃ y, w1.cell? ⟨g, I, none⟩ = some y := ⟨_, HO0.2.1 I hin⟩
      have hf0 := HO0.2.2 I
      have HO1 : Hid (Own (w1.setCell ⟨g, I, none⟩ (.string T0)) g n (fun j => if j < I + 1 then mkT k0 j else F j)) := text_step HO0 hin HE.out
      have HG0 : Hid (w.grownBy (w1.setCell ⟨g, I, none⟩ (.string T0)) (some g)) := setGrown (below_grown HG.out hb)
      clear hb HO0 HOr HG M0 HE
      go_wp2_with fail
      go_roundw
      case rel => exact ⟨I + 1, K + 1, by go_num, by go_num, by omega, by have := HK.out; omega, HO1, HG0⟩
      case measure => simp [intOf]; omega
    · have p0 : decide (I < n) = false := by simpa using hin
      have p1 : decide ((I : Int) < (n : Int)) = false := by simpa using hin
      obtain rfl : I = n := by omega
      go_wp2_with fail
      go_ret
      exact ⟨ret_int (by omega), Or.inr ⟨g, rfl, by rw [Nat.mul_one]; exact HOr.out.congr (fun j hj => by rw [if_pos hj])⟩, HG.out⟩
set_option maxRecDepth 100000 in
set_option maxHeartbeats 4000000 in
theorem held_texts (a : Option Addr) (n cap : Nat) (hn : n ≤ 1048576) (k0 : Nat) (hk1 : 1 ≤ k0) (hk2 : k0 ≤ 549755813888) (w : World) (h : OwnR w a n 1 (mkT k0)) :
    Calls Tryz.prog 65 #[.slice a n cap, .int .i64 (k0 : Int)] w fun e w' => e = .returned (.int .i64 ((k0 + n : Nat) : Int)) ∧ Below w.heap.size w w' := by
  rcases h with h0 | ⟨g, rfl, hO⟩
  · subst h0
    go_enter Tryz.func65, Tryz.ntmps65
    go_wp2_with fail
    refine wp_loop_rounds 1 ?_
    rw [rounds_succ]
    go_wp2
    go_ret
    exact ⟨ret_int (by omega), Below.refl _ _⟩
  rw [Nat.mul_one] at hO
  have HO : Hid (Own w g n (mkT k0)) := hO
  clear hO
  go_enter Tryz.func65, Tryz.ntmps65
  go_wp2_with fail
  go_loopw [1, 5] (fun x i wr => ∃ I K : Nat, x = .int .i64 (K : Int) ∧ i = .int .i64 (I : Int) ∧ I ≤ n ∧ K = k0 + I ∧ Hid (Below w.heap.size w wr)) (fun _ i _ => n - (intOf i).toNat)
  case atStart => exact ⟨0, k0, rfl, rfl, by omega, by omega, Below.refl _ _⟩
  case round =>
    obtain ⟨I, K, rfl, rfl, hI, hK, HB⟩ := hrel
    by_cases hin : I < n
    · have p0 : decide (I < n) = true := by simpa using hin
      have p1 : decide ((I : Int) < (n : Int)) = true := by simpa using hin
      have HE : Hid (mkT k0 I = .string (mtx K)) := by rw [hK]; rfl
      have hKb : K ≤ 1099511627000 := by omega
      have hK1 : 1 ≤ K := by omega
      have HK : Hid (K = k0 + I) := hK
      clear hK
      have M0 := fun z hz W => mark_text' z K hz (by omega) (by omega) W
      generalize mtx K = T0 at *
      have M0 : Hid (∀ z, z = ((K : Nat) : Int) → ∀ W, Calls Tryz.prog 38 #[.int .i64 z] W fun e w' => e = .returned (.string T0) ∧ Below W.heap.size W w') := M0
      have hxx : ∀ x : List UInt8, (x == x) = true := fun x => by simp
      have hgw : g < w.heap.size := HO.out.1
      have hO := HO.out.below HB.out
      have b0 : wr.cell? ⟨g, I, none⟩ = some (.string T0) := (hO.2.1 _ hin).trans (by rw [HE.out])
      have hgr : g < wr.heap.size := hO.1
      have hsr := HB.out.size
      clear hO HE
      go_upto_region 5 with fail
      go_region_held3 (fun W => W.cell? ⟨g, I, none⟩ = some (.string T0)) (go_keep) (first | (go_at_call 38; refine (M0.out _ (by omega) _).mono ?_; rintro e v0 ⟨rfl, hb⟩; have e0 : v0.cell? ⟨g, I, none⟩ = some (.string T0) := (hb.cell (p := ⟨g, I, none⟩) hgr).trans b0))
      have HB0 : Hid (Below w.heap.size w v0) := HB.out.drew.trans (hb.mono HB.out.size)
      clear hb e0
      go_wp2_with fail
      go_roundw
      case rel => exact ⟨I + 1, K + 1, by go_num, by go_num, by omega, by have := HK.out; omega, HB0⟩
      case measure => simp [intOf]; omega
    · have p0 : decide (I < n) = false := by simpa using hin
      have p1 : decide ((I : Int) < (n : Int)) = false := by simpa using hin
      obtain rfl : I = n := by omega
      go_wp2_with fail
      go_ret
      exact ⟨ret_int (by omega), HB.out⟩
end Go.Proofs.YtepkmbfedblhdaaGreatDoor
namespace Go.Proofs.YtepkmbfedblhdaaGreatDoor
open Go.RowKit
open Go.Proofs.YtepkmbfedblhdaaGreatDoor.Draw

def lineC (x : Ln) : List Value := [.string x.a, .string x.s, .int .i64 x.m]
def linesC (L : Nat → Ln) : Nat → List Value
  | 0 => []
  | k + 1 => linesC L k ++ lineC (L k)
theorem linesC_len (L : Nat → Ln) (k : Nat) : (linesC L k).length = k * 3 := by
  induction k with
  | zero => rfl
  | succ k ih => rw [linesC, List.length_append, ih]; simp [lineC]; omega
theorem linesC_at (L : Nat → Ln) (k j : Nat) (h : j < k * 3) : (linesC L k)[j]? = some (lineF L j) := by
  induction k with
  | zero => omega
  | succ k ih =>
    rw [linesC]
    by_cases hj : j < k * 3
    · rw [List.getElem?_append_left (by rw [linesC_len]; exact hj)]; exact ih hj
    · rw [List.getElem?_append_right (by rw [linesC_len]; omega), linesC_len]
      obtain ⟨e0, e1, e2⟩ := lineF_at L k
      rcases (by omega : j = k * 3 ∨ j = k * 3 + 1 ∨ j = k * 3 + 2) with rfl | rfl | rfl
      · rw [e0, show k * 3 - k * 3 = 0 by omega]; rfl
      · rw [e1, show k * 3 + 1 - k * 3 = 1 by omega]; rfl
      · rw [e2, show k * 3 + 2 - k * 3 = 2 by omega]; rfl
theorem news_lines {w : World} {g o n : Nat} {L : Nat → Ln} (h : LinesAt w (some ⟨g, o, none⟩) n L) : ∀ j u, (linesC L n)[j]? = some u → w.cell? ((⟨g, o, none⟩ : Addr).add j) = some u := by
  intro j u hj
  have hlt : j < n * 3 := by have := (List.getElem?_eq_some_iff.1 hj).1; rwa [linesC_len] at this
  rw [linesC_at L n j hlt] at hj
  rw [add_off, ← hj]
  rcases h with h0 | ⟨g', o', e, _, hc⟩
  · omega
  · simp at e
    obtain ⟨rfl, rfl⟩ := e
    obtain ⟨c0, c1, c2⟩ := hc (j / 3) (by omega)
    obtain ⟨e0, e1, e2⟩ := lineF_at L (j / 3)
    rcases (by omega : j = j / 3 * 3 ∨ j = j / 3 * 3 + 1 ∨ j = j / 3 * 3 + 2) with hr | hr | hr
    · rw [← e0, ← hr] at c0; exact c0
    · rw [← e1, Nat.add_assoc, ← hr] at c1; exact c1
    · rw [← e2, Nat.add_assoc, ← hr] at c2; exact c2
theorem ones_lines (L : Nat → Ln) (n : Nat) : ∀ u ∈ linesC L n, u.oneCell' = true := by
  induction n with
  | zero => intro u hu; simp [linesC] at hu
  | succ n ih =>
    intro u hu
    rw [linesC, List.mem_append] at hu
    rcases hu with hu | hu
    · exact ih u hu
    · simp [lineC] at hu; rcases hu with rfl | rfl | rfl <;> rfl
/-- An owned row of lines. -/
theorem own_linesAt {w : World} {B n : Nat} {v : Value} {L : Nat → Ln} (h : w.ownsRow B 84 3 v n (linesC L n)) : ∃ a cap, v = .slice a n cap ∧ LinesAt w a n L ∧ ∀ k, a.map Addr.block = some k → B ≤ k ∧ k < w.heap.size := by
  obtain ⟨_, ⟨rfl, rfl⟩ | ⟨g, cap, cur, rfl, hB, hblk, _⟩⟩ := id h
  · exact ⟨none, 0, rfl, Or.inl rfl, fun k e => by cases e⟩
  · refine ⟨_, cap, rfl, (own_row h (fun j hj => linesC_at L n j hj)).1.lines, fun k e => ?_⟩
    simp at e
    subst e
    exact ⟨hB, (Array.getElem?_eq_some_iff.1 hblk).1⟩
theorem infoLn : (Tryz.prog.info? 84).map (fun i => (i.zero, i.size, i.bytes)) = some (some (.agg #[.string ⟨#[]⟩, .string ⟨#[]⟩, .int .i64 0]), 3, 40) := by kernel_rfl
theorem infoTx : (Tryz.prog.info? 9).map (fun i => (i.zero, i.size, i.bytes)) = some (some (.string ⟨#[]⟩), 1, 16) := by kernel_rfl
set_option maxRecDepth 100000 in
set_option maxHeartbeats 8000000 in
theorem impl_ledger_no (g o g' o' n m cap cap' : Nat) (L : Nat → Ln) (I : Nat → Tx) (hn : n ≤ 1048576) (hm : m ≤ 1048576) (hf : ∀ i, i < n → (L i).fits) (hfi : ∀ i, i < m → (I i).fits) (hno : (linesB n L && idsB m I) = false) (w : World) (h : LinesAt w (some ⟨g, o, none⟩) n L) (h' : TextsAt w (some ⟨g', o', none⟩) m I) :
    Calls Tryz.prog 29 #[.agg #[.slice (some ⟨g, o, none⟩) n cap, .slice (some ⟨g', o', none⟩) m cap']] w fun e w' => e = .returned (.tuple #[.agg #[.slice none 0 0, .slice none 0 0, .map none, .complex .f64 0 0], .iface 94 (.agg #[.int .i64 1])]) ∧ Below w.heap.size w w' := by
  have T0 := two_now w #[.slice (some ⟨g, o, none⟩) n cap, .slice (some ⟨g', o', none⟩) m cap'] #[.slice none 0 0, .slice none 0 0, .map none, .complex .f64 0 0] 31 64
  have HLR := impl_lines (some ⟨g, o, none⟩) n cap L hn hf ((w.alloc (.cells #[.slice (some ⟨g, o, none⟩) n cap, .slice (some ⟨g', o', none⟩) m cap'] 31)).alloc (.cells #[.slice none 0 0, .slice none 0 0, .map none, .complex .f64 0 0] 64)) (h.below T0.bel)
  have HIR := fun W (hW : Below w.heap.size w W) => impl_ids (some ⟨g', o', none⟩) m cap' I hm hfi W (h'.below hW)
  generalize linesB n L = A at *
  generalize idsB m I = J at *
  have HT0 : Hid (Both w ((w.alloc (.cells #[.slice (some ⟨g, o, none⟩) n cap, .slice (some ⟨g', o', none⟩) m cap'] 31)).alloc (.cells #[.slice none 0 0, .slice none 0 0, .map none, .complex .f64 0 0] 64)) #[.slice (some ⟨g, o, none⟩) n cap, .slice (some ⟨g', o', none⟩) m cap'] #[.slice none 0 0, .slice none 0 0, .map none, .complex .f64 0 0]) := T0
  have HLR : Hid (Calls Tryz.prog 53 #[.slice (some ⟨g, o, none⟩) n cap] ((w.alloc (.cells #[.slice (some ⟨g, o, none⟩) n cap, .slice (some ⟨g', o', none⟩) m cap'] 31)).alloc (.cells #[.slice none 0 0, .slice none 0 0, .map none, .complex .f64 0 0] 64)) fun e w' => e = .returned (.bool A) ∧ Below ((w.alloc (.cells #[.slice (some ⟨g, o, none⟩) n cap, .slice (some ⟨g', o', none⟩) m cap'] 31)).alloc (.cells #[.slice none 0 0, .slice none 0 0, .map none, .complex .f64 0 0] 64)).heap.size ((w.alloc (.cells #[.slice (some ⟨g, o, none⟩) n cap, .slice (some ⟨g', o', none⟩) m cap'] 31)).alloc (.cells #[.slice none 0 0, .slice none 0 0, .map none, .complex .f64 0 0] 64)) w') := HLR
  have HIR : Hid (∀ W, Below w.heap.size w W → Calls Tryz.prog 54 #[.slice (some ⟨g', o', none⟩) m cap'] W fun e w' => e = .returned (.bool J) ∧ Below W.heap.size W w') := HIR
  clear h h' hf hfi T0
  go_enter Tryz.func29, Tryz.ntmps29
  go_wp2_with fail
  refine HLR.out.mono ?_
  rintro e w1 ⟨rfl, hb1⟩
  have T1 := HT0.out.next hb1
  have b1 := T1.box 1
  have r0 := T1.res 0
  have r1 := T1.res 1
  have r2 := T1.res 2
  have r3 := T1.res 3
  simp at b1 r0 r1 r2 r3
  have rf : ∀ j, w1.frozen? ⟨w.heap.size + 1, j, none⟩ = false := fun j => (hb1.frozen (p := ⟨w.heap.size + 1, j, none⟩) (by simp)).trans (fnew' (by simp) j)
  have HT1 : Hid (Both w w1 #[.slice (some ⟨g, o, none⟩) n cap, .slice (some ⟨g', o', none⟩) m cap'] #[.slice none 0 0, .slice none 0 0, .map none, .complex .f64 0 0]) := T1
  clear hb1 T1 HLR
  have hst := fun (W : World) (hc : W.cell? ⟨w.heap.size + 1, 3, none⟩ = some (.complex .f64 0 0)) (hf : W.frozen? ⟨w.heap.size + 1, 3, none⟩ = false) => store_cx ⟨w.heap.size + 1, 3, none⟩ 0 0 _ W hc hf
  have s : w.heap.size ≤ w.heap.size + 1 := by omega
  cases A
  · go_wp2_with fail
    refine bodyPost_ret (v := .tuple #[.agg #[.slice none 0 0, .slice none 0 0, .map none, .complex .f64 0 0], .iface 94 (.agg #[.int .i64 1])]) ?_ rfl ⟨rfl, ?_⟩
    · simp [results, Tryz.results29, go_sem, r0, r1, r2, r3]
    · exact (((HT1.out.bel.setCell s _).setCell s _).setCell s _).setCell s _
  cases J
  · go_wp2_with fail
    refine (HIR.out _ HT1.out.bel).mono ?_
    rintro e w2 ⟨rfl, hb2⟩
    have T2 := HT1.out.next hb2
    have q0 := T2.res 0
    have q1 := T2.res 1
    have q2 := T2.res 2
    have q3 := T2.res 3
    simp at q0 q1 q2 q3
    have qf : ∀ j, w2.frozen? ⟨w.heap.size + 1, j, none⟩ = false := fun j => (hb2.frozen (p := ⟨w.heap.size + 1, j, none⟩) (by have := HT1.out.size; show w.heap.size + 1 < _; omega)).trans (rf j)
    have HB2 : Hid (Below w.heap.size w w2) := T2.bel
    clear hb2 T2 r0 r1 r2 r3 rf b1
    go_wp2_with fail
    refine bodyPost_ret (v := .tuple #[.agg #[.slice none 0 0, .slice none 0 0, .map none, .complex .f64 0 0], .iface 94 (.agg #[.int .i64 1])]) ?_ rfl ⟨rfl, ?_⟩
    · simp [results, Tryz.results29, go_sem, q0, q1, q2, q3]
    · exact (((HB2.out.setCell s _).setCell s _).setCell s _).setCell s _
  · simp at hno
end Go.Proofs.YtepkmbfedblhdaaGreatDoor
namespace Go.Proofs.YtepkmbfedblhdaaGreatDoor
open Go.RowKit
open Go.Proofs.YtepkmbfedblhdaaGreatDoor.Draw

theorem TextsAt.set {w : World} {g o m q j : Nat} {I : Nat → Tx} {v : Value} (h : TextsAt w (some ⟨g, o, none⟩) m I) (hne : g ≠ q) : TextsAt (w.setCell ⟨q, j, none⟩ v) (some ⟨g, o, none⟩) m I := h.grown (setGrown (World.grownBy.refl _ _)) (fun k e => by simp at e; subst e; simpa using hne)
/-- A ledger's block. -/
structure Led (W : World) (l : Nat) (v0 v1 v2 v3 : Value) : Prop where
  c0 : W.cell? ⟨l, 0, none⟩ = some v0
  c1 : W.cell? ⟨l, 1, none⟩ = some v1
  c2 : W.cell? ⟨l, 2, none⟩ = some v2
  c3 : W.cell? ⟨l, 3, none⟩ = some v3
  fz : ∀ j, W.frozen? ⟨l, j, none⟩ = false
  lt : l < W.heap.size
theorem Led.below {W W' : World} {l : Nat} {v0 v1 v2 v3 : Value} (h : Led W l v0 v1 v2 v3) (hb : Below W.heap.size W W') : Led W' l v0 v1 v2 v3 :=
  ⟨(hb.cell (p := ⟨l, 0, none⟩) h.lt).trans h.c0, (hb.cell (p := ⟨l, 1, none⟩) h.lt).trans h.c1, (hb.cell (p := ⟨l, 2, none⟩) h.lt).trans h.c2, (hb.cell (p := ⟨l, 3, none⟩) h.lt).trans h.c3, fun j => (hb.frozen (p := ⟨l, j, none⟩) h.lt).trans (h.fz j), Nat.lt_of_lt_of_le h.lt hb.size⟩
theorem Led.set0 {W : World} {l : Nat} {v0 v1 v2 v3 : Value} (h : Led W l v0 v1 v2 v3) (u : Value) : Led (W.setCell ⟨l, 0, none⟩ u) l u v1 v2 v3 := by
  have a0 := h.c0
  refine ⟨by simp [go_sem, a0], ?_, ?_, ?_, fun j => by simp only [World.frozen?_setCell]; exact h.fz j, by simpa using h.lt⟩
  · rw [World.cell?_setCell_other _ _ _ _ (by simp)]; exact h.c1
  · rw [World.cell?_setCell_other _ _ _ _ (by simp)]; exact h.c2
  · rw [World.cell?_setCell_other _ _ _ _ (by simp)]; exact h.c3
theorem Led.set1 {W : World} {l : Nat} {v0 v1 v2 v3 : Value} (h : Led W l v0 v1 v2 v3) (u : Value) : Led (W.setCell ⟨l, 1, none⟩ u) l v0 u v2 v3 := by
  have a0 := h.c1
  refine ⟨?_, by simp [go_sem, a0], ?_, ?_, fun j => by simp only [World.frozen?_setCell]; exact h.fz j, by simpa using h.lt⟩
  · rw [World.cell?_setCell_other _ _ _ _ (by simp)]; exact h.c0
  · rw [World.cell?_setCell_other _ _ _ _ (by simp)]; exact h.c2
  · rw [World.cell?_setCell_other _ _ _ _ (by simp)]; exact h.c3
theorem Led.set3 {W : World} {l : Nat} {v0 v1 v2 v3 : Value} (h : Led W l v0 v1 v2 v3) (u : Value) : Led (W.setCell ⟨l, 3, none⟩ u) l v0 v1 v2 u := by
  have a0 := h.c3
  refine ⟨?_, ?_, ?_, by simp [go_sem, a0], fun j => by simp only [World.frozen?_setCell]; exact h.fz j, by simpa using h.lt⟩
  · rw [World.cell?_setCell_other _ _ _ _ (by simp)]; exact h.c0
  · rw [World.cell?_setCell_other _ _ _ _ (by simp)]; exact h.c1
  · rw [World.cell?_setCell_other _ _ _ _ (by simp)]; exact h.c2
theorem four_set (W : World) (d b : Nat) (v0 v1 v2 v3 : Value) : W.grownBy (((((W.drewN d).setCell ⟨b, 0, none⟩ v0).setCell ⟨b, 1, none⟩ v1).setCell ⟨b, 2, none⟩ v2).setCell ⟨b, 3, none⟩ v3) (some b) :=
  setGrown (setGrown (setGrown (setGrown ⟨rfl, rfl, rfl, Nat.le_refl _, fun _ _ _ => rfl⟩)))
/-- The result's block is still zero. -/
def Zr (w W : World) : Prop := Led W (w.heap.size + 1) (.slice none 0 0) (.slice none 0 0) (.map none) (.complex .f64 0 0)
theorem Led.grown {W W' : World} {b : Nat} {row : Option Nat} {v0 v1 v2 v3 : Value} (h : Led W b v0 v1 v2 v3) (hg : W.grownBy W' row) (hne : some b ≠ row) : Led W' b v0 v1 v2 v3 := by
  have hb := hg.block b h.lt hne
  exact ⟨(World.cell?_of_block (a := ⟨b, 0, none⟩) hb).trans h.c0, (World.cell?_of_block (a := ⟨b, 1, none⟩) hb).trans h.c1, (World.cell?_of_block (a := ⟨b, 2, none⟩) hb).trans h.c2, (World.cell?_of_block (a := ⟨b, 3, none⟩) hb).trans h.c3, fun j => (World.frozen?_of_block (a := ⟨b, j, none⟩) hb).trans (h.fz j), Nat.lt_of_lt_of_le h.lt hg.size⟩
theorem Led.setl {W : World} {b l j : Nat} {v0 v1 v2 v3 u : Value} (h : Led W b v0 v1 v2 v3) (hne : b ≠ l) : Led (W.setCell ⟨l, j, none⟩ u) b v0 v1 v2 v3 := h.grown (setGrown (World.grownBy.refl _ _)) (by simpa using hne)
theorem LinesAt.setl {W : World} {a : Option Addr} {n l j : Nat} {L : Nat → Ln} {u : Value} (h : LinesAt W a n L) (hne : ∀ k, a.map Addr.block = some k → k ≠ l) : LinesAt (W.setCell ⟨l, j, none⟩ u) a n L := h.grown (setGrown (World.grownBy.refl _ _)) (fun k e => by simpa using hne k e)
theorem okLine_m {L : Nat → Ln} {j : Nat} (h : okLine L j = true) : -1000000000000 ≤ (L j).m ∧ (L j).m ≤ 1000000000000 := by
  simp only [okLine, Bool.and_eq_true] at h
  exact (rightB_iff _).1 h.1.2
theorem count_step {r i k : Nat} {x t : Int} (h : (i : Int) - (r : Int) = t) (hr : r ≤ k * 1000000000000) (hi : i ≤ k * 1000000000000) (h0 : -1000000000000 ≤ x) (h1 : x ≤ 1000000000000) : (putI i x : Int) - (takeI r x : Int) = t + x ∧ takeI r x ≤ (k + 1) * 1000000000000 ∧ putI i x ≤ (k + 1) * 1000000000000 := by
  unfold putI takeI
  by_cases hx : x < 0
  · rw [if_pos hx, if_pos hx]; omega
  · rw [if_neg hx, if_neg hx]; omega
set_option maxRecDepth 100000 in
set_option maxHeartbeats 16000000 in
theorem impl_ledger_ok (g o g' o' n m cap cap' : Nat) (L : Nat → Ln) (I : Nat → Tx) (hf : ∀ i, i < n → (L i).fits) (hfi : ∀ i, i < m → (I i).fits) (hA : linesB n L = true) (hJ : idsB m I = true) (w : World) (h : LinesAt w (some ⟨g, o, none⟩) n L) (h' : TextsAt w (some ⟨g', o', none⟩) m I) :
    Calls Tryz.prog 29 #[.agg #[.slice (some ⟨g, o, none⟩) n cap, .slice (some ⟨g', o', none⟩) m cap']] w fun e w' => ∃ (a1 : Option Addr) (c1 : Nat) (a2 : Option Addr) (c2 M fr fi : Nat) (er : Value), e = .returned (.tuple #[.agg #[.slice a1 n c1, .slice a2 m c2, .map (some M), .complex .f64 fr fi], er]) ∧ (er = .nilIface ∧ sumL L n = 0 ∨ er = .iface 94 (.agg #[.int .i64 1]) ∧ sumL L n ≠ 0) ∧ w'.ownsMap Tryz.prog 57 (plainElem Tryz.prog 3) M n (placesD L n) ∧ LinesAt w' a1 n L ∧ Below w.heap.size w w' := by
  obtain ⟨i0, hi, hz0, hz1, hz2⟩ := info_parts infoLn
  obtain ⟨i1, hi', hz0', hz1', hz2'⟩ := info_parts infoTx
  obtain ⟨hn60, hok⟩ := (linesB_iff n L).1 hA
  obtain ⟨hm100, _⟩ := (idsB_iff m I).1 hJ
  have HOK : Hid (∀ j, j < n → okLine L j = true) := hok
  have T0 := two_now w #[.slice (some ⟨g, o, none⟩) n cap, .slice (some ⟨g', o', none⟩) m cap'] #[.slice none 0 0, .slice none 0 0, .map none, .complex .f64 0 0] 31 64
  have HLR := impl_lines (some ⟨g, o, none⟩) n cap L (by omega) hf ((w.alloc (.cells #[.slice (some ⟨g, o, none⟩) n cap, .slice (some ⟨g', o', none⟩) m cap'] 31)).alloc (.cells #[.slice none 0 0, .slice none 0 0, .map none, .complex .f64 0 0] 64)) (h.below T0.bel)
  have HIR := fun W (hW : Below w.heap.size w W) => impl_ids (some ⟨g', o', none⟩) m cap' I (by omega) hfi W (h'.below hW)
  have HL : Hid (LinesAt w (some ⟨g, o, none⟩) n L) := h
  have HI : Hid (TextsAt w (some ⟨g', o', none⟩) m I) := h'
  have HF : Hid (∀ i, i < n → (L i).fits) := hf
  rw [hA] at HLR
  rw [hJ] at HIR
  have HT0 : Hid (Both w ((w.alloc (.cells #[.slice (some ⟨g, o, none⟩) n cap, .slice (some ⟨g', o', none⟩) m cap'] 31)).alloc (.cells #[.slice none 0 0, .slice none 0 0, .map none, .complex .f64 0 0] 64)) #[.slice (some ⟨g, o, none⟩) n cap, .slice (some ⟨g', o', none⟩) m cap'] #[.slice none 0 0, .slice none 0 0, .map none, .complex .f64 0 0]) := T0
  have HLR : Hid (Calls Tryz.prog 53 #[.slice (some ⟨g, o, none⟩) n cap] ((w.alloc (.cells #[.slice (some ⟨g, o, none⟩) n cap, .slice (some ⟨g', o', none⟩) m cap'] 31)).alloc (.cells #[.slice none 0 0, .slice none 0 0, .map none, .complex .f64 0 0] 64)) fun e w' => e = .returned (.bool true) ∧ Below ((w.alloc (.cells #[.slice (some ⟨g, o, none⟩) n cap, .slice (some ⟨g', o', none⟩) m cap'] 31)).alloc (.cells #[.slice none 0 0, .slice none 0 0, .map none, .complex .f64 0 0] 64)).heap.size ((w.alloc (.cells #[.slice (some ⟨g, o, none⟩) n cap, .slice (some ⟨g', o', none⟩) m cap'] 31)).alloc (.cells #[.slice none 0 0, .slice none 0 0, .map none, .complex .f64 0 0] 64)) w') := HLR
  have HIR : Hid (∀ W, Below w.heap.size w W → Calls Tryz.prog 54 #[.slice (some ⟨g', o', none⟩) m cap'] W fun e w' => e = .returned (.bool true) ∧ Below W.heap.size W w') := HIR
  clear h h' hf hfi T0 hA hJ hok
  go_enter Tryz.func29, Tryz.ntmps29
  go_wp2_with fail
  refine HLR.out.mono ?_
  rintro e w1 ⟨rfl, hb1⟩
  have T1 := HT0.out.next hb1
  have b1 := T1.box 1
  simp at b1
  have rf : ∀ j, w1.frozen? ⟨w.heap.size + 1, j, none⟩ = false := fun j => (hb1.frozen (p := ⟨w.heap.size + 1, j, none⟩) (by simp)).trans (fnew' (by simp) j)
  have HRF : Hid (∀ j, w1.frozen? ⟨w.heap.size + 1, j, none⟩ = false) := rf
  have HT1 : Hid (Both w w1 #[.slice (some ⟨g, o, none⟩) n cap, .slice (some ⟨g', o', none⟩) m cap'] #[.slice none 0 0, .slice none 0 0, .map none, .complex .f64 0 0]) := T1
  clear hb1 T1 HLR rf HT0
  go_wp2_with fail
  refine (HIR.out _ HT1.out.bel).mono ?_
  rintro e w2 ⟨rfl, hb2⟩
  have T2 := HT1.out.next hb2
  have HT2 : Hid (Both w w2 #[.slice (some ⟨g, o, none⟩) n cap, .slice (some ⟨g', o', none⟩) m cap'] #[.slice none 0 0, .slice none 0 0, .map none, .complex .f64 0 0]) := T2
  have HRF2 : Hid (∀ j, w2.frozen? ⟨w.heap.size + 1, j, none⟩ = false) := fun j => (hb2.frozen (p := ⟨w.heap.size + 1, j, none⟩) (by have := HT1.out.size; show w.heap.size + 1 < _; omega)).trans (HRF.out j)
  have c0 := T2.box 0
  have c1 := T2.box 1
  simp at c0 c1
  have hs2 : w.heap.size + 2 ≤ w2.heap.size := T2.size
  have hl0 : w.heap.size < w2.heap.size := by omega
  have nl0 : w2.heap.size ≠ w.heap.size := by omega
  have HB2 : Hid (Below w.heap.size w w2) := T2.bel
  have HLa : Hid (LinesAt (w2.alloc (.cells #[.slice none 0 0, .slice none 0 0, .map none, .complex .f64 0 0] 64)) (some ⟨g, o, none⟩) n L) := (HL.out.below T2.bel).below ((Below.refl _ _).alloc (Nat.le_refl _) _)
  clear hb2 T2 b1 HIR HT1 HRF
  go_wp2_with (at_builtin; refine wpList_append_own _ rfl (.tmp 22) (.tmp 24) 29 rfl (w2.heap.size + 1) 84 i0 (.agg #[.string ⟨#[]⟩, .string ⟨#[]⟩, .int .i64 0]) 3 40 Tryz.underlying29 hi hz0 hz1 hz2 rfl (by decide) (.slice none 0 0) 0 [] rfl (World.ownsRow_nil _ _ _ _) ⟨g, o, none⟩ n cap (linesC L n) rfl (linesC_len L n) ?c1 ?c2 ?c3 ?c4 ?c5 ?_)
  case c1 => exact news_lines HLa.out
  case c2 => exact ones_lines L n
  case c3 => unfold maxLen; omega
  case c4 => omega
  case c5 => simp
  intro v1 w3 hown1 hg1 _
  obtain ⟨a1, cp1, rfl, hLA, hbk⟩ := own_linesAt hown1
  have hb3 : Below (w2.heap.size + 1) (w2.alloc (.cells #[.slice none 0 0, .slice none 0 0, .map none, .complex .f64 0 0] 64)) w3 := (Below.refl _ _).grown hg1 (by simp) (fun k hk => by cases hk)
  have cl : ∀ j, w3.cell? ⟨w2.heap.size, j, none⟩ = (#[.slice none 0 0, .slice none 0 0, .map none, .complex .f64 0 0] : Array Value)[j]? := fun j => (hb3.cell (p := ⟨w2.heap.size, j, none⟩) (by simp)).trans (cnew _ _ _ j)
  have fl3 : ∀ j, w3.frozen? ⟨w2.heap.size, j, none⟩ = false := fun j => (hb3.frozen (p := ⟨w2.heap.size, j, none⟩) (by simp)).trans (fnew' rfl j)
  have hs3 : w2.heap.size + 1 ≤ w3.heap.size := by have := hb3.size; simpa using this
  have HB3 : Hid (Below w.heap.size w w3) := (HB2.out.alloc HB2.out.size _).trans (hb3.mono (by omega))
  have HB23 : Hid (Below w2.heap.size w2 w3) := ((Below.refl _ _).alloc (Nat.le_refl _) _).trans (hb3.mono (by omega))
  have HLA : Hid (LinesAt w3 a1 n L) := hLA
  have HBK : Hid (∀ k, a1.map Addr.block = some k → w2.heap.size < k ∧ k < w3.heap.size) := fun k e => by have := hbk k e; omega
  have l0 := cl 0
  have l1 := cl 1
  have l2 := cl 2
  have l3 := cl 3
  simp at l0 l1 l2 l3
  have d1 : w3.cell? ⟨w.heap.size, 1, none⟩ = some (.slice (some ⟨g', o', none⟩) m cap') := (HB23.out.cell (p := ⟨w.heap.size, 1, none⟩) hl0).trans c1
  obtain ⟨l, hl⟩ : ∃ l, l = w2.heap.size := ⟨_, rfl⟩
  have HLW : Hid (l = w2.heap.size) := hl
  rw [← hl] at l0 l1 l2 l3 fl3 HBK hl0 nl0 hs3 hs2 ⊢
  clear hown1 hg1 hbk hLA hb3 cl c0 c1 hl HLa
  have hlw3 : l < w3.heap.size := by omega
  have hll : l ≠ w.heap.size := nl0
  have HIa : Hid (TextsAt (w3.setCell ⟨l, 0, none⟩ (.slice a1 n cp1)) (some ⟨g', o', none⟩) m I) := by
    rcases HI.out with h0 | ⟨g1, o1, e, hg1, _⟩
    · exact Or.inl h0
    · simp at e
      obtain ⟨rfl, rfl⟩ := e
      exact (HI.out.below HB3.out).set (by omega)
  go_wp2_with (at_builtin; refine wpList_append_own _ rfl (.tmp 30) (.tmp 32) 23 rfl w3.heap.size 9 i1 (.string ⟨#[]⟩) 1 16 Tryz.underlying23 hi' hz0' hz1' hz2' rfl (by decide) (.slice none 0 0) 0 [] rfl (World.ownsRow_nil _ _ _ _) ⟨g', o', none⟩ m cap' (textsC I m) rfl (textsC_len I m) ?e1 ?e2 ?e3 ?e4 ?e5 ?_)
  case e1 => exact news_texts HIa.out
  case e2 => exact ones_texts I m
  case e3 => unfold maxLen; omega
  case e4 => omega
  case e5 => simp
  intro v2 w4 hown2 hg2 _
  obtain ⟨a2, cp2, hv2, _, _⟩ := own_texts hown2
  subst hv2
  have hb4 : Below w3.heap.size (w3.setCell ⟨l, 0, none⟩ (.slice a1 n cp1)) w4 := (Below.refl _ _).grown hg2 (by simp) (fun k hk => by cases hk)
  have hb4' : Below (w3.setCell ⟨l, 0, none⟩ (.slice a1 n cp1)).heap.size (w3.setCell ⟨l, 0, none⟩ (.slice a1 n cp1)) w4 := hb4.mono (by simp)
  have D3 : Led w3 l (.slice none 0 0) (.slice none 0 0) (.map none) (.complex .f64 0 0) := ⟨l0, l1, l2, l3, fl3, hlw3⟩
  have D4 := (D3.set0 (.slice a1 n cp1)).below hb4'
  have hnl : ∀ k, a1.map Addr.block = some k → k ≠ l := fun k e => by have := (HBK.out k e).1; omega
  have A4 : LinesAt w4 a1 n L := (HLA.out.setl (j := 0) (u := .slice a1 n cp1) hnl).below hb4'
  have Z2 : Zr w w2 := by
    have q0 := HT2.out.res 0
    have q1 := HT2.out.res 1
    have q2 := HT2.out.res 2
    have q3 := HT2.out.res 3
    simp at q0 q1 q2 q3
    exact ⟨q0, q1, q2, q3, HRF2.out, by have := HT2.out.size; omega⟩
  have Z4 : Zr w w4 := ((Led.below Z2 HB23.out).setl (by omega)).below hb4'
  have HB4 : Hid (Below w.heap.size w w4) := (HB3.out.setCell (by show w.heap.size ≤ l; omega) _).trans (hb4'.mono (by simpa using HB3.out.size))
  have D5 := D4.set1 (.slice a2 m cp2)
  have A5 : LinesAt (w4.setCell ⟨l, 1, none⟩ (.slice a2 m cp2)) a1 n L := A4.setl hnl
  have HD5 : Hid (Led (w4.setCell ⟨l, 1, none⟩ (.slice a2 m cp2)) l (.slice a1 n cp1) (.slice a2 m cp2) (.map none) (.complex .f64 0 0)) := D5
  have HA5 : Hid (LinesAt (w4.setCell ⟨l, 1, none⟩ (.slice a2 m cp2)) a1 n L) := A5
  have HZ5 : Hid (Zr w (w4.setCell ⟨l, 1, none⟩ (.slice a2 m cp2))) := Led.setl Z4 (by omega)
  have HB5 : Hid (Below w.heap.size w (w4.setCell ⟨l, 1, none⟩ (.slice a2 m cp2))) := HB4.out.setCell (by show w.heap.size ≤ l; omega) _
  have HNL : Hid (∀ k, a1.map Addr.block = some k → k ≠ l) := hnl
  have HNR : Hid (∀ k, a1.map Addr.block = some k → k ≠ w.heap.size + 1) := fun k e => by have := (HBK.out k e).1; omega
  obtain ⟨m0, m1, m2, m3, mf, mlt⟩ := D4
  clear hown2 hg2 hb4 hb4' D3 A4 Z2 Z4 HB4 D5 A5 hnl l0 l1 l2 l3 fl3 HLA HBK HB23 HRF2 HT2 HIa d1 HB2 HB3
  go_wp2_with fail
  refine (impl_index l a1 n cp1 L hn60 HF.out (.map none) _ HA5.out HNL.out HD5.out.lt HD5.out.c0 HD5.out.c2 (HD5.out.fz 2)).mono ?_
  rintro e w6 ⟨rfl, M, hM, hc2, hmp, hg6, hsame, hfr⟩
  have D6 : Led w6 l (.slice a1 n cp1) (.slice a2 m cp2) (.map (some M)) (.complex .f64 0 0) := ⟨(hsame 0 (by omega)).trans HD5.out.c0, (hsame 1 (by omega)).trans HD5.out.c1, hc2, (hsame 3 (by omega)).trans HD5.out.c3, fun j => (hfr j).trans (HD5.out.fz j), Nat.lt_of_lt_of_le HD5.out.lt hg6.size⟩
  have HD6 : Hid (Led w6 l (.slice a1 n cp1) (.slice a2 m cp2) (.map (some M)) (.complex .f64 (fl 0) (fl 0))) := D6
  have HMp6 : Hid (w6.ownsMap Tryz.prog 57 (plainElem Tryz.prog 3) M n (placesD L n)) := hmp
  have hMl : M ≠ l := by have := HD5.out.lt; omega
  have hMr : M ≠ w.heap.size + 1 := by have := HD5.out.lt; omega
  clear hmp
  have HA6 : Hid (LinesAt w6 a1 n L) := HA5.out.grown hg6 (fun k e => by simpa using HNL.out k e)
  have HZ6 : Hid (Zr w w6) := Led.grown HZ5.out hg6 (by simp; omega)
  have HB6 : Hid (Below w.heap.size w w6) := HB5.out.grown hg6 HB5.out.size (fun k hk => by simp at hk; omega)
  obtain ⟨e0, e1, e2, e3, ef, elt⟩ := D6
  clear hc2 hg6 hsame hfr hM HD5 HA5 HZ5 HB5 m0 m1 m2 m3 mf mlt
  go_wp2_with fail
  go_loopw [41] (fun x wr => ∃ k r i : Nat, x = .int .i64 (k : Int) ∧ k ≤ n ∧ Hid ((i : Int) - (r : Int) = sumL L k ∧ r ≤ k * 1000000000000 ∧ i ≤ k * 1000000000000) ∧ Hid (Led wr l (.slice a1 n cp1) (.slice a2 m cp2) (.map (some M)) (.complex .f64 (fl r) (fl i))) ∧ Hid (wr.ownsMap Tryz.prog 57 (plainElem Tryz.prog 3) M n (placesD L n)) ∧ Hid (LinesAt wr a1 n L) ∧ Hid (Zr w wr) ∧ Hid (Below w.heap.size w wr)) (fun x _ => n - (intOf x).toNat)
  case atStart => exact ⟨0, 0, 0, rfl, by omega, ⟨rfl, by omega, by omega⟩, HD6, HMp6, HA6, HZ6, HB6⟩
  case round =>
    obtain ⟨k, r, i, rfl, hk, HS, HD, HMp, HA, HZ, HB⟩ := hrel
    by_cases hkn : k < n
    · have p0 : decide (k < n) = true := by simpa using hkn
      have p1 : decide ((k : Int) < (n : Int)) = true := by simpa using hkn
      rcases HA.out with h0 | ⟨g1, o1, rfl, hg1, hc⟩
      · omega
      obtain ⟨c0, c1, c2⟩ := hc k hkn
      obtain ⟨x0, x1⟩ := okLine_m (HOK.out k hkn)
      have HS0 := count_step HS.out.1 HS.out.2.1 HS.out.2.2 x0 x1
      have HSS : Hid ((putI i (L k).m : Int) - (takeI r (L k).m : Int) = sumL L (k + 1) ∧ takeI r (L k).m ≤ (k + 1) * 1000000000000 ∧ putI i (L k).m ≤ (k + 1) * 1000000000000) := HS0
      clear HS0
      have hrb : r ≤ 1000000000000000 := by have := HS.out.2.1; have : k * 1000000000000 ≤ 60 * 1000000000000 := Nat.mul_le_mul_right _ (by omega); omega
      have hib : i ≤ 1000000000000000 := by have := HS.out.2.2; have : k * 1000000000000 ≤ 60 * 1000000000000 := Nat.mul_le_mul_right _ (by omega); omega
      have HCT := fun W (hc : W.cell? ⟨l, 3, none⟩ = some (.complex .f64 (fl r) (fl i))) (hf : W.frozen? ⟨l, 3, none⟩ = false) => impl_count l r i (L k).m x0 x1 hrb hib W hc hf
      obtain ⟨tr, htr⟩ : ∃ t, takeI r (L k).m = t := ⟨_, rfl⟩
      obtain ⟨ti, hti⟩ : ∃ t, putI i (L k).m = t := ⟨_, rfl⟩
      rw [htr, hti] at HSS
      rw [htr, hti] at HCT
      have HCT : Hid (∀ W, W.cell? ⟨l, 3, none⟩ = some (.complex .f64 (fl r) (fl i)) → W.frozen? ⟨l, 3, none⟩ = false → Calls Tryz.prog 56 #[.pointer (some ⟨l, 0, none⟩), .int .i64 (L k).m] W fun e w' => e = .returned (.tuple #[]) ∧ w' = W.setCell ⟨l, 3, none⟩ (.complex .f64 (fl tr) (fl ti))) := HCT
      clear htr hti hc HS x0 x1
      generalize (L k).a = y0 at *
      generalize (L k).s = y1 at *
      generalize (L k).m = y2 at *
      have hBa : Below wr.heap.size wr (wr.alloc (.cells #[.string y0, .string y1, .int .i64 y2] 84)) := (Below.refl _ _).alloc (Nat.le_refl _) _
      have HDa : Hid (Led (wr.alloc (.cells #[.string y0, .string y1, .int .i64 y2] 84)) l (.slice (some ⟨g1, o1, none⟩) n cp1) (.slice a2 m cp2) (.map (some M)) (.complex .f64 (fl r) (fl i))) := HD.out.below hBa
      have HMa : Hid ((wr.alloc (.cells #[.string y0, .string y1, .int .i64 y2] 84)).ownsMap Tryz.prog 57 (plainElem Tryz.prog 3) M n (placesD L n)) := HMp.out.alloc _
      have HAa : Hid (LinesAt (wr.alloc (.cells #[.string y0, .string y1, .int .i64 y2] 84)) (some ⟨g1, o1, none⟩) n L) := HA.out.below hBa
      have HZa : Hid (Zr w (wr.alloc (.cells #[.string y0, .string y1, .int .i64 y2] 84))) := Led.below HZ.out hBa
      have HBa : Hid (Below w.heap.size w (wr.alloc (.cells #[.string y0, .string y1, .int .i64 y2] 84))) := HB.out.trans (hBa.mono HB.out.size)
      clear hBa HD HA HZ HB HMp
      go_wp2_with fail
      refine (HCT.out _ HDa.out.c3 (HDa.out.fz 3)).mono ?_
      rintro e w7 ⟨rfl, hw7⟩
      have HD7 : Hid (Led w7 l (.slice (some ⟨g1, o1, none⟩) n cp1) (.slice a2 m cp2) (.map (some M)) (.complex .f64 (fl tr) (fl ti))) := by rw [hw7]; exact HDa.out.set3 _
      have HM7 : Hid (w7.ownsMap Tryz.prog 57 (plainElem Tryz.prog 3) M n (placesD L n)) := by rw [hw7]; exact HMa.out.kept (setGrown (World.grownBy.refl _ _)) (by simpa using hMl)
      have HA7 : Hid (LinesAt w7 (some ⟨g1, o1, none⟩) n L) := by rw [hw7]; exact HAa.out.setl HNL.out
      have HZ7 : Hid (Zr w w7) := by rw [hw7]; exact Led.setl HZa.out (by omega)
      have HB7 : Hid (Below w.heap.size w w7) := by rw [hw7]; exact HBa.out.setCell (by show w.heap.size ≤ l; omega) _
      clear hw7 HDa HAa HZa HBa HCT c0 c1 c2
      go_wp2_with fail
      go_roundw
      case rel => exact ⟨k + 1, tr, ti, by go_num, by omega, HSS, HD7, HM7, HA7, HZ7, HB7⟩
      case measure => simp [intOf]; omega
    · have p0 : decide (k < n) = false := by simpa using hkn
      have p1 : decide ((k : Int) < (n : Int)) = false := by simpa using hkn
      obtain rfl : k = n := by omega
      have hrb : r ≤ 1000000000000000 := by have := HS.out.2.1; have : k * 1000000000000 ≤ 60 * 1000000000000 := Nat.mul_le_mul_right _ (by omega); omega
      have hib : i ≤ 1000000000000000 := by have := HS.out.2.2; have : k * 1000000000000 ≤ 60 * 1000000000000 := Nat.mul_le_mul_right _ (by omega); omega
      have HST := fun W (hc : W.cell? ⟨l, 3, none⟩ = some (.complex .f64 (fl r) (fl i))) => impl_settled l r i hrb hib W hc
      obtain ⟨er, her⟩ : ∃ er, (if r = i then Value.nilIface else .iface 94 (.agg #[.int .i64 1])) = er := ⟨_, rfl⟩
      have HER : Hid (er = .nilIface ∧ sumL L k = 0 ∨ er = .iface 94 (.agg #[.int .i64 1]) ∧ sumL L k ≠ 0) := by
        have := HS.out.1
        by_cases hri : r = i
        · rw [if_pos hri] at her; exact Or.inl ⟨her.symm, by omega⟩
        · rw [if_neg hri] at her; exact Or.inr ⟨her.symm, by omega⟩
      rw [her] at HST
      have HST : Hid (∀ W, W.cell? ⟨l, 3, none⟩ = some (.complex .f64 (fl r) (fl i)) → Calls Tryz.prog 57 #[.pointer (some ⟨l, 0, none⟩)] W fun e w' => e = .returned er ∧ ∃ d, w' = W.drewN d) := HST
      clear her HS
      obtain ⟨c0, c1, c2, c3, cf, clt⟩ := HD.out
      obtain ⟨z0, z1, z2, z3, zf, zlt⟩ := HZ.out
      have hst := fun (W : World) (x y : Nat) (hc : W.cell? ⟨w.heap.size + 1, 3, none⟩ = some (.complex .f64 0 0)) (hf : W.frozen? ⟨w.heap.size + 1, 3, none⟩ = false) => store_cx ⟨w.heap.size + 1, 3, none⟩ x y _ W hc hf
      have hln : w.heap.size + 1 ≠ l := by omega
      have hln' : l ≠ w.heap.size + 1 := by omega
      generalize fl r = fr at *
      generalize fl i = fi at *
      go_upto_region 12 with fail
      go_region_held3 (fun W => W.cell? ⟨l, 0, none⟩ = some (.slice a1 k cp1) ∧ W.cell? ⟨l, 1, none⟩ = some (.slice a2 m cp2) ∧ W.cell? ⟨l, 2, none⟩ = some (.map (some M)) ∧ W.cell? ⟨l, 3, none⟩ = some (.complex .f64 fr fi)) (go_keep) (first | (go_at_call 57; refine (HST.out _ (by simpa using c3)).mono ?_; rintro e w7 ⟨rfl, d, rfl⟩))
      all_goals
        go_wp2_with fail
        refine bodyPost_ret (v := .tuple #[.agg #[.slice a1 k cp1, .slice a2 m cp2, .map (some M), .complex .f64 fr fi], er]) ?_ rfl ⟨a1, cp1, a2, cp2, M, fr, fi, er, rfl, HER.out, ?_, ?_, ?_⟩
        · simp [results, Tryz.results29, go_sem, z0, z1, z2, z3]
        · exact (HMp.out.kept (four_set wr (1 + d) (w.heap.size + 1) _ _ _ _) (by simpa using hMr))
        · exact HA.out.grown (four_set wr (1 + d) (w.heap.size + 1) _ _ _ _) (fun j e => by have := HNR.out j e; simpa using this)
        · have s1 : w.heap.size ≤ w.heap.size + 1 := by omega
          have hd : Below w.heap.size w (wr.drewN (1 + d)) := ⟨HB.out.os, HB.out.tape, HB.out.output, HB.out.size, HB.out.block⟩
          exact (((hd.setCell s1 _).setCell s1 _).setCell s1 _).setCell s1 _
end Go.Proofs.YtepkmbfedblhdaaGreatDoor
