/- The order of lines, right ids and right lines: what each call does, of the program and of its model. -/
import Derived.Test.YtpabdapaegllnaaDoorBkM
import Derived.Test.YtpabdapaegllnaaDoorLayCmp
import Derived.Shelf.Small.Strs
import Derived.Deep.QuietTactic
namespace Go.Proofs.YtpabdapaegllnaaDoor
open Go.RowKit
open Go.Proofs.YtpabdapaegllnaaDoor.Draw

set_option maxRecDepth 100000 in
set_option maxHeartbeats 4000000 in
theorem spec_less (a s a' s' : ByteArray) (w : World) :
    Calls Tryd.prog 45 #[.agg #[.string a, .string s], .agg #[.string a', .string s']] w fun e w' => e = .returned (.bool (lessP a s a' s')) ∧ Below w.heap.size w w' := by
  have HE : Hid (lessP a s a' s' = (Op.bytesLess a.toList a'.toList || ((a.toList == a'.toList) && Op.bytesLess s.toList s'.toList))) := rfl
  have HB : Hid (∀ o o', Below w.heap.size w ((w.alloc o).alloc o')) := fun o o' => ((Below.refl _ _).alloc (Nat.le_refl _) _).alloc (by simp) _
  cases hA : Op.bytesLess a.toList a'.toList
  · cases hB : (a.toList == a'.toList)
    · rw [hA, hB] at HE
      go_enter Tryd.func45, Tryd.ntmps45
      go_wp2_with fail
      go_ret
      exact ⟨ret_bool HE.out.symm, HB.out _ _⟩
    · cases hC : Op.bytesLess s.toList s'.toList
      · rw [hA, hB, hC] at HE
        go_enter Tryd.func45, Tryd.ntmps45
        go_wp2_with fail
        go_ret
        exact ⟨ret_bool HE.out.symm, HB.out _ _⟩
      · rw [hA, hB, hC] at HE
        go_enter Tryd.func45, Tryd.ntmps45
        go_wp2_with fail
        go_ret
        exact ⟨ret_bool HE.out.symm, HB.out _ _⟩
  · rw [hA] at HE
    go_enter Tryd.func45, Tryd.ntmps45
    go_wp2_with fail
    go_ret
    exact ⟨ret_bool HE.out.symm, HB.out _ _⟩
theorem str_cmp (a b : ByteArray) (w : World) : Calls Tryd.prog 94 #[.string a, .string b] w fun e w' => e = .returned (.int .i64 (cmpS a b)) ∧ w' = w := Any.strings_Compare lays106 a b w
def orB (x y : Int) : Int := if x ≠ 0 then x else y
set_option maxRecDepth 100000 in
set_option maxHeartbeats 4000000 in
theorem cmp_or (q : Nat) (x y : Int) (w : World) (h0 : w.cell? ⟨q, 0, none⟩ = some (.int .i64 x)) (h1 : w.cell? ⟨q, 1, none⟩ = some (.int .i64 y)) :
    Calls Tryd.prog 93 #[.slice (some ⟨q, 0, none⟩) 2 2] w fun e w' => e = .returned (.int .i64 (orB x y)) ∧ w' = w := by
  go_enter Tryd.func93, Tryd.ntmps93
  go_wp2_with fail
  go_loopw [8] (fun i wr => ∃ k : Nat, i = .int .i64 (k : Int) ∧ k ≤ 2 ∧ wr = w ∧ Hid (1 ≤ k → x = 0) ∧ Hid (2 ≤ k → y = 0)) (fun i _ => 2 - (intOf i).toNat)
  case atStart => exact ⟨0, rfl, by omega, rfl, fun h => by omega, fun h => by omega⟩
  case round =>
    obtain ⟨k, rfl, hk, rfl, HX, HY⟩ := hrel
    rcases (by omega : k = 0 ∨ k = 1 ∨ k = 2) with rfl | rfl | rfl
    · by_cases hx : x = 0
      · subst hx
        go_wp2_with fail
        go_roundw
        case rel => exact ⟨1, by go_num, by omega, trivial, fun _ => (by first | trivial | rfl), fun h => by omega⟩
        case measure => simp [intOf]
      · have t1 : (x != 0) = true := by simpa using hx
        have HE : Hid (orB x y = x) := if_pos hx
        go_wp2_with fail
        go_ret
        exact ⟨ret_int HE.out.symm, rfl⟩
    · by_cases hy : y = 0
      · subst hy
        go_wp2_with fail
        go_roundw
        case rel => exact ⟨2, by go_num, by omega, trivial, fun _ => HX.out (by omega), fun _ => (by first | trivial | rfl)⟩
        case measure => simp [intOf]
      · have t1 : (y != 0) = true := by simpa using hy
        have HE : Hid (orB x y = y) := by rw [HX.out (by omega)]; rfl
        go_wp2_with fail
        go_ret
        exact ⟨ret_int HE.out.symm, rfl⟩
    · have HE : Hid (orB x y = 0) := by rw [HX.out (by omega), HY.out (by omega)]; rfl
      clear HX HY
      go_wp2_with fail
      go_ret
      exact ⟨ret_int HE.out.symm, rfl⟩
set_option maxRecDepth 100000 in
set_option maxHeartbeats 4000000 in
theorem impl_cmp (a s a' s' : ByteArray) (m m' : Int) (w : World) :
    Calls Tryd.prog 77 #[.agg #[.string a, .string s, .int .i64 m], .agg #[.string a', .string s', .int .i64 m']] w fun e w' => e = .returned (.int .i64 (cmpP a s a' s')) ∧ Below w.heap.size w w' := by
  have HE : Hid (cmpP a s a' s' = orB (cmpS a a') (cmpS s s')) := rfl
  go_enter Tryd.func77, Tryd.ntmps77
  go_upto_region 1 with fail
  obtain ⟨W, hW⟩ : ∃ W, W = (w.alloc (.cells #[.string a, .string s, .int .i64 m] 46)).alloc (.cells #[.string a', .string s', .int .i64 m'] 46) := ⟨_, rfl⟩
  have T := two_now w #[.string a, .string s, .int .i64 m] #[.string a', .string s', .int .i64 m'] 46 46
  rw [← hW] at T ⊢
  clear hW
  have b0 := T.box 0
  have b1 := T.box 1
  have r0 := T.res 0
  have r1 := T.res 1
  simp at b0 b1 r0 r1
  have HB : Hid (Below w.heap.size w W) := T.bel
  have HBs : Hid (w.heap.size + 2 ≤ W.heap.size) := T.size
  have n0 : W.heap.size ≠ w.heap.size := by have := T.size; omega
  have n1 : W.heap.size ≠ w.heap.size + 1 := by have := T.size; omega
  clear T
  go_region_held3 (fun V => V.cell? ⟨w.heap.size, 0, none⟩ = some (.string a) ∧ V.cell? ⟨w.heap.size, 1, none⟩ = some (.string s) ∧ V.cell? ⟨w.heap.size + 1, 0, none⟩ = some (.string a') ∧ V.cell? ⟨w.heap.size + 1, 1, none⟩ = some (.string s')) (go_keep) (first | (go_at_call 94; refine (str_cmp _ _ _).mono ?_; rintro e w1 ⟨rfl, rfl⟩) | (go_at_call 93; refine (cmp_or _ (cmpS a a') (cmpS s s') _ (by simp) (by simp)).mono ?_; rintro e w3 ⟨rfl, rfl⟩))
  all_goals (go_wp2_with fail)
  all_goals go_ret
  all_goals exact ⟨ret_int HE.out.symm, (HB.out.alloc HB.out.size _).drew⟩
set_option maxRecDepth 100000 in
set_option maxHeartbeats 4000000 in
theorem impl_ids (a : Option Addr) (n cap : Nat) (I : Nat → Tx) (hn : n ≤ 1048576) (hfit : ∀ i, i < n → (I i).fits) (w : World) (h : TextsAt w a n I) :
    Calls Tryd.prog 67 #[.slice a n cap] w fun e w' => e = .returned (.bool (idsB n I)) ∧ Below w.heap.size w w' := by
  have HL : Hid (TextsAt w a n I) := h
  have HF : Hid (∀ i, i < n → (I i).fits) := hfit
  clear h hfit
  by_cases hlim : n ≤ 100
  · have z0 : decide (100 < n) = false := by simp; omega
    have z1 : decide ((100 : Int) < (n : Int)) = false := by simp; omega
    go_enter Tryd.func67, Tryd.ntmps67
    go_wp2_with fail
    go_loopw [10] (fun i wr => ∃ k : Nat, i = .int .i64 (k : Int) ∧ k ≤ n ∧ Hid (∀ j, j < k → okId I j = true) ∧ Hid (Below w.heap.size w wr)) (fun i _ => n - (intOf i).toNat)
    case atStart => exact ⟨0, rfl, by omega, fun j hj => by omega, Below.refl _ _⟩
    case round =>
      obtain ⟨k, rfl, hk, HS, HB⟩ := hrel
      by_cases hkn : k < n
      · have p0 : decide (k < n) = true := by simpa using hkn
        have p1 : decide ((k : Int) < (n : Int)) = true := by simpa using hkn
        rcases HL.out with h0 | ⟨g, o, rfl, hg, hc⟩
        · omega
        have c0 := hc k hkn
        have d0 := (HB.out.cell (p := ⟨g, _, none⟩) hg).trans c0
        have HF1 : Hid ((I k).t.size ≤ maxLen) := HF.out k hkn
        have HS' : Hid (okId I k = true → ∀ j, j < k + 1 → okId I j = true) := fun hsm j hj => by
          by_cases e : j = k
          · rw [e]; exact hsm
          · exact HS.out j (by omega)
        have HNO : Hid (okId I k = false → idsB n I = false) := idsB_no hkn
        have hgr : g < wr.heap.size := Nat.lt_of_lt_of_le hg HB.out.size
        rcases Nat.eq_zero_or_pos k with hk0 | hk0
        · subst hk0
          have HOK : Hid (okId I 0 = nameB (I 0).t) := by simp [Hid, okId]
          rw [Nat.add_zero] at d0
          generalize okId I 0 = ok at *
          have HC : Hid (∀ W, Calls Tryd.prog 36 #[.string (I 0).t] W fun e w' => e = .returned (.bool (nameB (I 0).t)) ∧ Below W.heap.size W w') := fun W => impl_name _ W HF1.out
          generalize nameB (I 0).t = A at *
          generalize (I 0).t = x at *
          clear hc c0 HS
          go_wp2_with fail
          refine (HC.out _).mono ?_
          rintro e w1 ⟨rfl, hb1⟩
          have HB1 : Hid (Below w.heap.size w w1) := HB.out.trans (hb1.mono HB.out.size)
          clear hb1 d0
          cases A
          · have HX : Hid (idsB n I = false) := HNO.out (by rw [HOK.out])
            go_wp2_with fail
            go_ret
            exact ⟨ret_bool HX.out.symm, HB1.out⟩
          · have HY : Hid (∀ j, j < 0 + 1 → okId I j = true) := HS'.out (by rw [HOK.out])
            go_wp2_with fail
            go_roundw
            case rel => exact ⟨0 + 1, by go_num, by omega, HY, HB1⟩
            case measure => simp [intOf]; omega
        · obtain ⟨J, hJ⟩ : ∃ J : Nat, k = J + 1 := ⟨k - 1, by omega⟩
          have hJi : (k : Int) - 1 = (J : Int) := by omega
          have c1 := hc J (by omega)
          have d1 := (HB.out.cell (p := ⟨g, _, none⟩) hg).trans c1
          have hJn : J < n := by omega
          have t0 : decide (0 < k) = true := by simpa using hk0
          have t1 : decide ((0 : Int) < (k : Int)) = true := by simpa using hk0
          have HOK : Hid (okId I k = (nameB (I k).t && Op.bytesLess (I J).t.toList (I k).t.toList)) := by
            rw [Hid, okId, hJ]; simp [ltS]
          generalize okId I k = ok at *
          have HC : Hid (∀ W, Calls Tryd.prog 36 #[.string (I k).t] W fun e w' => e = .returned (.bool (nameB (I k).t)) ∧ Below W.heap.size W w') := fun W => impl_name _ W HF1.out
          generalize nameB (I k).t = A at *
          generalize (I k).t = x at *
          generalize (I J).t = y at *
          clear hc c0 c1 HS hJ
          go_wp2_with fail
          refine (HC.out _).mono ?_
          rintro e w1 ⟨rfl, hb1⟩
          have HB1 : Hid (Below w.heap.size w w1) := HB.out.trans (hb1.mono HB.out.size)
          have e1 := (hb1.cell (p := ⟨g, _, none⟩) hgr).trans d1
          clear hb1 d0 d1
          cases A
          · have HX : Hid (idsB n I = false) := HNO.out (by rw [HOK.out]; rfl)
            go_wp2_with fail
            go_ret
            exact ⟨ret_bool HX.out.symm, HB1.out⟩
          cases hB : Op.bytesLess y.toList x.toList
          · have HX : Hid (idsB n I = false) := HNO.out (by rw [HOK.out, hB]; rfl)
            go_wp2_with fail
            go_ret
            exact ⟨ret_bool HX.out.symm, HB1.out⟩
          · have HY : Hid (∀ j, j < k + 1 → okId I j = true) := HS'.out (by rw [HOK.out, hB]; rfl)
            go_wp2_with fail
            go_roundw
            case rel => exact ⟨k + 1, by go_num, by omega, HY, HB1⟩
            case measure => simp [intOf]; omega
      · have p0 : decide (k < n) = false := by simpa using hkn
        have p1 : decide ((k : Int) < (n : Int)) = false := by simpa using hkn
        obtain rfl : k = n := by omega
        go_wp2_with fail
        go_ret
        exact ⟨ret_bool (idsB_yes hlim HS.out).symm, HB.out⟩
  · have z0 : decide (100 < n) = true := by simp; omega
    have z1 : decide ((100 : Int) < (n : Int)) = true := by simp; omega
    go_enter Tryd.func67, Tryd.ntmps67
    go_wp2_with fail
    go_ret
    exact ⟨ret_bool (by simp [idsB, hlim]), Below.refl _ _⟩
set_option maxRecDepth 100000 in
set_option maxHeartbeats 4000000 in
theorem spec_ids (a : Option Addr) (n cap : Nat) (I : Nat → Tx) (hn : n ≤ 1048576) (hfit : ∀ i, i < n → (I i).fits) (w : World) (h : TextsAt w a n I) :
    Calls Tryd.prog 42 #[.slice a n cap] w fun e w' => e = .returned (.bool ((List.range n).all (okId I))) ∧ Below w.heap.size w w' := by
  have HL : Hid (TextsAt w a n I) := h
  have HF : Hid (∀ i, i < n → (I i).fits) := hfit
  clear h hfit
  go_enter Tryd.func42, Tryd.ntmps42
  go_wp2_with fail
  go_loopw [3] (fun i wr => ∃ k : Nat, i = .int .i64 (k : Int) ∧ k ≤ n ∧ Hid (∀ j, j < k → okId I j = true) ∧ Hid (Below w.heap.size w wr)) (fun i _ => n - (intOf i).toNat)
  case atStart => exact ⟨0, rfl, by omega, fun j hj => by omega, Below.refl _ _⟩
  case round =>
    obtain ⟨k, rfl, hk, HS, HB⟩ := hrel
    have HBN : Hid (∀ d, Below w.heap.size w (wr.drewN d)) := fun d => ⟨HB.out.os, HB.out.tape, HB.out.output, HB.out.size, HB.out.block⟩
    by_cases hkn : k < n
    · have p0 : decide (k < n) = true := by simpa using hkn
      have p1 : decide ((k : Int) < (n : Int)) = true := by simpa using hkn
      rcases HL.out with h0 | ⟨g, o, rfl, hg, hc⟩
      · omega
      have c0 := hc k hkn
      have d0 : wr.cell? ⟨g, o + k, none⟩ = some (.string (I k).t) := (HB.out.cell (p := ⟨g, _, none⟩) hg).trans c0
      have HF1 : Hid ((I k).t.size ≤ maxLen) := HF.out k hkn
      have HS' : Hid (okId I k = true → ∀ j, j < k + 1 → okId I j = true) := fun hsm j hj => by
        by_cases e : j = k
        · rw [e]; exact hsm
        · exact HS.out j (by omega)
      have HNO : Hid (okId I k = false → (List.range n).all (okId I) = false) := all_no hkn
      rcases Nat.eq_zero_or_pos k with hk0 | hk0
      · subst hk0
        have HOK : Hid (okId I 0 = nameB (I 0).t) := by simp [Hid, okId]
        rw [Nat.add_zero] at d0
        generalize okId I 0 = ok at *
        have HC : Hid (∀ W, Calls Tryd.prog 33 #[.string (I 0).t] W fun e w' => e = .returned (.bool (nameB (I 0).t)) ∧ w' = W) := fun W => spec_name _ W HF1.out
        generalize nameB (I 0).t = A at *
        generalize (I 0).t = x at *
        clear hc c0 HS
        have u0 : decide ((0 : Int) < 0) = false := rfl
        have hb0 : (0 : Int) < (n : Int) := by omega
        go_upto_region 4 with fail
        cases A
        · have HX : Hid ((List.range n).all (okId I) = false) := HNO.out (by rw [HOK.out])
          go_quiet (first | (go_at_call 33; refine Calls.quiet_of_same (HC.out _)))
          go_wp2_with fail
          go_ret
          exact ⟨ret_bool HX.out.symm, HBN.out _⟩
        · have HY : Hid (∀ j, j < 0 + 1 → okId I j = true) := HS'.out (by rw [HOK.out])
          go_quiet (first | (go_at_call 33; refine Calls.quiet_of_same (HC.out _)))
          go_wp2_with fail
          go_roundw
          case rel => exact ⟨0 + 1, by go_num, by omega, HY, HBN.out _⟩
          case measure => simp [intOf]; omega
      · obtain ⟨J, hJ⟩ : ∃ J : Nat, k = J + 1 := ⟨k - 1, by omega⟩
        have hJi : (k : Int) - 1 = (J : Int) := by omega
        have c1 := hc J (by omega)
        have d1 : wr.cell? ⟨g, o + J, none⟩ = some (.string (I J).t) := (HB.out.cell (p := ⟨g, _, none⟩) hg).trans c1
        have hJn : J < n := by omega
        have t0 : decide (0 < k) = true := by simpa using hk0
        have t1 : decide ((0 : Int) < (k : Int)) = true := by simpa using hk0
        have HOK : Hid (okId I k = (nameB (I k).t && Op.bytesLess (I J).t.toList (I k).t.toList)) := by
          rw [Hid, okId, hJ]; simp [ltS]
        generalize okId I k = ok at *
        have HC : Hid (∀ W, Calls Tryd.prog 33 #[.string (I k).t] W fun e w' => e = .returned (.bool (nameB (I k).t)) ∧ w' = W) := fun W => spec_name _ W HF1.out
        generalize nameB (I k).t = A at *
        generalize (I k).t = x at *
        generalize (I J).t = y at *
        clear hc c0 c1 HS hJ
        have hb0 : (k : Int) < (n : Int) := by omega
        have hb1 : (J : Int) < (n : Int) := by omega
        have hJw : IntKind.i64.wrap ((k : Int) - 1) = (J : Int) := by rw [IntWalk.i64_in _ (by omega)]; omega
        go_upto_region 4 with fail
        cases A
        · have HX : Hid ((List.range n).all (okId I) = false) := HNO.out (by rw [HOK.out]; rfl)
          go_quiet (first | (go_at_call 33; refine Calls.quiet_of_same (HC.out _)))
          go_wp2_with fail
          go_ret
          exact ⟨ret_bool HX.out.symm, HBN.out _⟩
        cases hB : Op.bytesLess y.toList x.toList
        · have HX : Hid ((List.range n).all (okId I) = false) := HNO.out (by rw [HOK.out, hB]; rfl)
          go_quiet (first | (go_at_call 33; refine Calls.quiet_of_same (HC.out _)))
          go_wp2_with fail
          go_ret
          exact ⟨ret_bool HX.out.symm, HBN.out _⟩
        · have HY : Hid (∀ j, j < k + 1 → okId I j = true) := HS'.out (by rw [HOK.out, hB]; rfl)
          go_quiet (first | (go_at_call 33; refine Calls.quiet_of_same (HC.out _)))
          go_wp2_with fail
          go_roundw
          case rel => exact ⟨k + 1, by go_num, by omega, HY, HBN.out _⟩
          case measure => simp [intOf]; omega
    · have p0 : decide (k < n) = false := by simpa using hkn
      have p1 : decide ((k : Int) < (n : Int)) = false := by simpa using hkn
      obtain rfl : k = n := by omega
      go_wp2_with fail
      go_ret
      exact ⟨ret_bool (all_yes HS.out).symm, HB.out⟩
end Go.Proofs.YtpabdapaegllnaaDoor
