/- The texts of money and rates (MoneyText, RateText, of the program and of its model): what each call does, and the laws that hold one against the other. -/
import Derived.Test.YtgbkpifkmkjbaaaDoorDec
import Derived.Test.YtgbkpifkmkjbaaaDoorTimesLaw
namespace Go.Proofs.YtgbkpifkmkjbaaaDoor
open Go.RowKit
open Go.Lib (decDigits)

theorem impl_pointI (z k : Int) (p : Nat) (hz0 : 0 ≤ z) (hz1 : z ≤ 1000000000000) (hk : k = (p : Int)) (hp : p ≤ 8) (w : World) (hT : Tab w) :
    Calls Tryd.prog 58 #[.int .i64 z, .int .i64 k] w fun e w' => e = .returned (.string (strB (pointT p z.natAbs))) ∧ Below w.heap.size w w' := by
  obtain ⟨n, rfl⟩ : ∃ n : Nat, z = n := ⟨z.toNat, by omega⟩
  subst hk
  rw [Int.natAbs_natCast]
  exact impl_point n p (by omega) hp w hT
theorem spec_decI (z : Int) (n : Nat) (hz : z = (n : Int)) (h1 : n ≤ 1000000000000) (w : World) :
    Calls Tryd.prog 60 #[.int .i64 z] w fun e w' => e = .returned (.string (strB (decDigits n))) ∧ Below w.heap.size w w' := by
  subst hz
  exact spec_dec n (by omega) w
theorem spec_digitsI (z k : Int) (n p : Nat) (hz : z = (n : Int)) (hk : k = (p : Int)) (h1 : n ≤ 1000000000000) (hp : p ≤ 8) (w : World) :
    Calls Tryd.prog 61 #[.int .i64 z, .int .i64 k] w fun e w' => e = .returned (.string (strB (padN p (decDigits n)))) ∧ Below w.heap.size w w' := by
  subst hz
  subst hk
  exact spec_digits n p (by omega) hp w
theorem point_small (p n : Nat) (h : n ≤ 1000000000000) (hp : p ≤ 8) : (strB (pointT p n)).size ≤ 40 := by
  rw [strB_size]
  have h2 : n / 10 ^ p < 10 ^ 20 := Nat.lt_of_le_of_lt (Nat.div_le_self _ _) (by omega)
  have := pointT_len p n 19 h2
  omega
theorem dec_fits (n : Nat) (h : n ≤ 1000000000000) : (strB (decDigits n)).size ≤ 20 := by rw [strB_size]; exact dec_len 19 n (by omega)
theorem pad_fits (k n : Nat) (h : n ≤ 1000000000000) (hk : k ≤ 8) : (strB (padN k (decDigits n))).size ≤ 30 := by
  rw [strB_size]
  unfold padN
  rw [List.length_append, List.length_replicate]
  have := dec_len 19 n (by omega)
  omega
theorem str_minus (l : List UInt8) : ({ data := #[45] } : ByteArray) ++ strB l = strB (45 :: l) := strB_append [45] l
theorem str_join (a b : List UInt8) : strB a ++ { data := #[46] } ++ strB b = strB (a ++ 46 :: b) := by
  have e46 : ({ data := #[46] } : ByteArray) = strB [46] := rfl
  rw [e46, strB_append, strB_append, List.append_assoc]; rfl
theorem str_pct (l : List UInt8) : strB l ++ { data := #[37] } = strB (l ++ [37]) := strB_append l [37]

set_option maxHeartbeats 1000000 in
theorem impl_moneyText (n : Int) (w : World) (hT : Tab w) :
    Calls Tryd.prog 20 #[.int .i64 n] w fun e w' => e = .returned (.string (strB (moneyT n))) ∧ Below w.heap.size w w' := by
  have HT : Hid (Tab w) := hT
  clear hT
  cases hr : rightB n
  · have HR : Hid (moneyT n = []) := by
      unfold Hid moneyT
      rw [if_neg]
      rw [← rightB_iff, hr]; simp
    have H : Hid (rightB n = false) := hr
    clear hr
    go_enter Tryd.func20, Tryd.ntmps20
    go_wp2_with fail
    refine (impl_right _ _).mono ?_
    rintro e w1 ⟨rfl, rfl⟩
    rw [H.out]
    go_wp2_with fail
    go_ret
    refine ⟨?_, Below.refl _ _⟩
    rw [HR.out]; rfl
  have H : Hid (rightB n = true) := hr
  have hb := (rightB_iff n).1 hr
  obtain ⟨n0, n1⟩ := hb
  clear hr
  by_cases hn : n < 0
  · have HR : Hid (moneyT n = 45 :: pointT 2 (-n).natAbs) := by unfold Hid moneyT; rw [if_pos ⟨n0, n1⟩, if_pos hn, Int.natAbs_neg]
    have hs := point_small 2 (-n).natAbs (by omega) (by omega)
    go_enter Tryd.func20, Tryd.ntmps20
    go_wp2_with fail
    refine (impl_right _ _).mono ?_
    rintro e w1 ⟨rfl, rfl⟩
    rw [H.out]
    go_wp2_with fail
    refine (impl_pointI (-n) 2 2 (by omega) (by omega) rfl (by omega) _ HT.out).mono ?_
    rintro e w2 ⟨rfl, hb⟩
    generalize hE : strB (pointT 2 (-n).natAbs) = E at *
    have HE : Hid (strB (pointT 2 (-n).natAbs) = E) := hE
    clear hE
    go_wp2_with fail
    go_ret
    refine ⟨ret_str (a := ({ data := #[45] } : ByteArray) ++ E) ?_, hb⟩
    rw [HR.out, ← HE.out, str_minus]
  · have HR : Hid (moneyT n = pointT 2 n.natAbs) := by unfold Hid moneyT; rw [if_pos ⟨n0, n1⟩, if_neg hn]
    go_enter Tryd.func20, Tryd.ntmps20
    go_wp2_with fail
    refine (impl_right _ _).mono ?_
    rintro e w1 ⟨rfl, rfl⟩
    rw [H.out]
    go_wp2_with fail
    refine (impl_pointI n 2 2 (by omega) (by omega) rfl (by omega) _ HT.out).mono ?_
    rintro e w2 ⟨rfl, hb⟩
    go_wp2_with fail
    go_ret
    refine ⟨ret_str ?_, hb⟩
    rw [HR.out]

set_option maxHeartbeats 1000000 in
theorem impl_rateRight (n : Int) (w : World) :
    Calls Tryd.prog 63 #[.int .i64 n] w fun e w' => e = .returned (.bool (decide (0 ≤ n ∧ n ≤ 1000000))) ∧ w' = w := by
  by_cases h0 : 0 ≤ n
  · have t0 : decide (0 ≤ n) = true := by simpa using h0
    by_cases h1 : n ≤ 1000000
    · have t1 : decide (n ≤ 1000000) = true := by simpa using h1
      have e : decide (0 ≤ n ∧ n ≤ 1000000) = true := by simp [h0, h1]
      rw [e]
      clear e
      go_enter Tryd.func63, Tryd.ntmps63
      go_wp2
      go_ret
      exact ⟨rfl, rfl⟩
    · have t1 : decide (n ≤ 1000000) = false := by simpa using h1
      have e : decide (0 ≤ n ∧ n ≤ 1000000) = false := by simp [h1]
      rw [e]
      clear e
      go_enter Tryd.func63, Tryd.ntmps63
      go_wp2
      go_ret
      exact ⟨rfl, rfl⟩
  · have t0 : decide (0 ≤ n) = false := by simpa using h0
    have e : decide (0 ≤ n ∧ n ≤ 1000000) = false := by simp [h0]
    rw [e]
    clear e
    go_enter Tryd.func63, Tryd.ntmps63
    go_wp2
    go_ret
    exact ⟨rfl, rfl⟩
set_option maxHeartbeats 1000000 in
theorem impl_rateText (n : Int) (w : World) (hT : Tab w) :
    Calls Tryd.prog 24 #[.int .i64 n] w fun e w' => e = .returned (.string (strB (rateT n))) ∧ Below w.heap.size w w' := by
  have HT : Hid (Tab w) := hT
  clear hT
  by_cases hr : 0 ≤ n ∧ n ≤ 1000000
  · have H : Hid (decide (0 ≤ n ∧ n ≤ 1000000) = true) := by simpa [Hid] using hr
    have HR : Hid (rateT n = pointT 4 n.natAbs ++ [37]) := by unfold Hid rateT; rw [if_pos hr]
    obtain ⟨n0, n1⟩ := hr
    have hs := point_small 4 n.natAbs (by omega) (by omega)
    go_enter Tryd.func24, Tryd.ntmps24
    go_wp2_with fail
    refine (impl_rateRight _ _).mono ?_
    rintro e w1 ⟨rfl, rfl⟩
    rw [H.out]
    go_wp2_with fail
    refine (impl_pointI n 4 4 (by omega) (by omega) rfl (by omega) _ HT.out).mono ?_
    rintro e w2 ⟨rfl, hb⟩
    generalize hE : strB (pointT 4 n.natAbs) = E at *
    have HE : Hid (strB (pointT 4 n.natAbs) = E) := hE
    clear hE
    go_wp2_with fail
    go_ret
    refine ⟨ret_str (a := E ++ ({ data := #[37] } : ByteArray)) ?_, hb⟩
    rw [HR.out, ← HE.out, str_pct]
  · have H : Hid (decide (0 ≤ n ∧ n ≤ 1000000) = false) := by simpa [Hid] using hr
    have HR : Hid (rateT n = []) := by unfold Hid rateT; rw [if_neg hr]
    clear hr
    go_enter Tryd.func24, Tryd.ntmps24
    go_wp2_with fail
    refine (impl_rateRight _ _).mono ?_
    rintro e w1 ⟨rfl, rfl⟩
    rw [H.out]
    go_wp2_with fail
    go_ret
    refine ⟨?_, Below.refl _ _⟩
    rw [HR.out]; rfl

set_option maxHeartbeats 1000000 in
theorem spec_moneyText (n : Int) (w : World) :
    Calls Tryd.prog 51 #[.int .i64 n] w fun e w' => e = .returned (.string (strB (moneyT n))) ∧ Below w.heap.size w w' := by
  cases hr : rightB n
  · have HR : Hid (moneyT n = []) := by
      unfold Hid moneyT
      rw [if_neg]
      rw [← rightB_iff, hr]; simp
    have H : Hid (rightB n = false) := hr
    clear hr
    go_enter Tryd.func51, Tryd.ntmps51
    go_wp2_with fail
    refine (spec_right _ _).mono ?_
    rintro e w1 ⟨rfl, rfl⟩
    rw [H.out]
    go_wp2_with fail
    go_ret
    refine ⟨?_, Below.refl _ _⟩
    rw [HR.out]; rfl
  have H : Hid (rightB n = true) := hr
  have hb := (rightB_iff n).1 hr
  obtain ⟨n0, n1⟩ := hb
  clear hr
  have f1 := dec_fits (n.natAbs / 100) (by omega)
  have f2 := pad_fits 2 (n.natAbs % 100) (by omega) (by omega)
  have HJ : Hid (strB (decDigits (n.natAbs / 100)) ++ { data := #[46] } ++ strB (padN 2 (decDigits (n.natAbs % 100))) = strB (pointT 2 n.natAbs)) := by rw [Hid, str_join, point_two]
  by_cases hn : n < 0
  · have HR : Hid (moneyT n = 45 :: pointT 2 n.natAbs) := by unfold Hid moneyT; rw [if_pos ⟨n0, n1⟩, if_pos hn]
    go_enter Tryd.func51, Tryd.ntmps51
    go_wp2_with fail
    refine (spec_right _ _).mono ?_
    rintro e w1 ⟨rfl, rfl⟩
    rw [H.out]
    go_wp2_with fail
    refine (spec_abs _ _ (by omega) (by omega)).mono ?_
    rintro e w1 ⟨rfl, rfl⟩
    go_wp2_with fail
    refine (spec_decI _ (n.natAbs / 100) (by omega) (by omega) _).mono ?_
    rintro e w2 ⟨rfl, hb1⟩
    generalize hE : strB (decDigits (n.natAbs / 100)) = E at *
    go_wp2_with fail
    refine (spec_abs _ _ (by omega) (by omega)).mono ?_
    rintro e w1 ⟨rfl, rfl⟩
    go_wp2_with fail
    refine (spec_digitsI _ 2 (n.natAbs % 100) 2 (by omega) rfl (by omega) (by omega) _).mono ?_
    rintro e w3 ⟨rfl, hb2⟩
    generalize hF : strB (padN 2 (decDigits (n.natAbs % 100))) = F at *
    clear hE hF
    go_wp2_with fail
    go_ret
    refine ⟨ret_str (a := ({ data := #[45] } : ByteArray) ++ (E ++ ({ data := #[46] } : ByteArray) ++ F)) ?_, hb1.trans (hb2.mono hb1.size)⟩
    rw [HJ.out, HR.out, str_minus]
  · have HR : Hid (moneyT n = pointT 2 n.natAbs) := by unfold Hid moneyT; rw [if_pos ⟨n0, n1⟩, if_neg hn]
    go_enter Tryd.func51, Tryd.ntmps51
    go_wp2_with fail
    refine (spec_right _ _).mono ?_
    rintro e w1 ⟨rfl, rfl⟩
    rw [H.out]
    go_wp2_with fail
    refine (spec_abs _ _ (by omega) (by omega)).mono ?_
    rintro e w1 ⟨rfl, rfl⟩
    go_wp2_with fail
    refine (spec_decI _ (n.natAbs / 100) (by omega) (by omega) _).mono ?_
    rintro e w2 ⟨rfl, hb1⟩
    generalize hE : strB (decDigits (n.natAbs / 100)) = E at *
    go_wp2_with fail
    refine (spec_abs _ _ (by omega) (by omega)).mono ?_
    rintro e w1 ⟨rfl, rfl⟩
    go_wp2_with fail
    refine (spec_digitsI _ 2 (n.natAbs % 100) 2 (by omega) rfl (by omega) (by omega) _).mono ?_
    rintro e w3 ⟨rfl, hb2⟩
    generalize hF : strB (padN 2 (decDigits (n.natAbs % 100))) = F at *
    clear hE hF
    go_wp2_with fail
    go_ret
    refine ⟨ret_str (a := E ++ ({ data := #[46] } : ByteArray) ++ F) ?_, hb1.trans (hb2.mono hb1.size)⟩
    rw [HJ.out, HR.out]

set_option maxHeartbeats 1000000 in
theorem spec_rateText (n : Int) (w : World) :
    Calls Tryd.prog 22 #[.int .i64 n] w fun e w' => e = .returned (.string (strB (rateT n))) ∧ Below w.heap.size w w' := by
  by_cases h0 : 0 ≤ n
  case neg =>
    have HR : Hid (rateT n = []) := by unfold Hid rateT; rw [if_neg (by omega)]
    have t0 : decide (n < 0) = true := by simp; omega
    go_enter Tryd.func22, Tryd.ntmps22
    go_wp2_with fail
    go_ret
    refine ⟨?_, Below.refl _ _⟩
    rw [HR.out]; rfl
  have t0 : decide (n < 0) = false := by simp; omega
  by_cases h1 : n ≤ 1000000
  case neg =>
    have HR : Hid (rateT n = []) := by unfold Hid rateT; rw [if_neg (by omega)]
    have t1 : decide (1000000 < n) = true := by simp; omega
    go_enter Tryd.func22, Tryd.ntmps22
    go_wp2_with fail
    go_ret
    refine ⟨?_, Below.refl _ _⟩
    rw [HR.out]; rfl
  have t1 : decide (1000000 < n) = false := by simp; omega
  have HR : Hid (rateT n = pointT 4 n.natAbs ++ [37]) := by unfold Hid rateT; rw [if_pos ⟨h0, h1⟩]
  have f1 := dec_fits (n.natAbs / 10000) (by omega)
  have f2 := pad_fits 4 (n.natAbs % 10000) (by omega) (by omega)
  have HJ : Hid (strB (decDigits (n.natAbs / 10000)) ++ { data := #[46] } ++ strB (padN 4 (decDigits (n.natAbs % 10000))) = strB (pointT 4 n.natAbs)) := by rw [Hid, str_join, point_four]
  go_enter Tryd.func22, Tryd.ntmps22
  go_wp2_with fail
  refine (spec_decI _ (n.natAbs / 10000) (by omega) (by omega) _).mono ?_
  rintro e w2 ⟨rfl, hb1⟩
  generalize hE : strB (decDigits (n.natAbs / 10000)) = E at *
  go_wp2_with fail
  refine (spec_digitsI _ 4 (n.natAbs % 10000) 4 (by omega) rfl (by omega) (by omega) _).mono ?_
  rintro e w3 ⟨rfl, hb2⟩
  generalize hF : strB (padN 4 (decDigits (n.natAbs % 10000))) = F at *
  clear hE hF
  go_wp2_with fail
  go_ret
  refine ⟨ret_str (a := E ++ ({ data := #[46] } : ByteArray) ++ F ++ ({ data := #[37] } : ByteArray)) ?_, hb1.trans (hb2.mono hb1.size)⟩
  rw [HJ.out, HR.out, str_pct]

set_option maxHeartbeats 400000 in
theorem law_moneyText (n : Int) (_hn : (Lit.int .i64 n).wf = true) (w : World) (hT : Tab w) :
    Calls Tryd.prog 11 #[.int .i64 n] w fun e w' => e = .returned (.bool true) ∧ Below w.heap.size w w' := by
  have H1 := fun w => spec_moneyText n w
  have H2 := fun w hT => impl_moneyText n w hT
  generalize strB (moneyT n) = r at *
  have HT : Hid (Tab w) := hT
  have H1 : Hid (∀ w, Calls Tryd.prog 51 #[.int .i64 n] w fun e w' => e = .returned (.string r) ∧ Below w.heap.size w w') := H1
  have H2 : Hid (∀ w, Tab w → Calls Tryd.prog 20 #[.int .i64 n] w fun e w' => e = .returned (.string r) ∧ Below w.heap.size w w') := H2
  clear hT
  go_enter Tryd.func11, Tryd.ntmps11
  go_wp2_with fail
  refine (H1.out _).mono ?_
  rintro e w1 ⟨rfl, hb1⟩
  go_wp2_with fail
  refine (H2.out _ (by exact HT.out.below hb1)).mono ?_
  rintro e w2 ⟨rfl, hb2⟩
  go_wp2_with fail
  go_ret
  exact ⟨rfl, hb1.trans (hb2.mono hb1.size)⟩

set_option maxHeartbeats 400000 in
theorem law_rateText (n : Int) (_hn : (Lit.int .i64 n).wf = true) (w : World) (hT : Tab w) :
    Calls Tryd.prog 13 #[.int .i64 n] w fun e w' => e = .returned (.bool true) ∧ Below w.heap.size w w' := by
  have H1 := fun w => spec_rateText n w
  have H2 := fun w hT => impl_rateText n w hT
  generalize strB (rateT n) = r at *
  have HT : Hid (Tab w) := hT
  have H1 : Hid (∀ w, Calls Tryd.prog 22 #[.int .i64 n] w fun e w' => e = .returned (.string r) ∧ Below w.heap.size w w') := H1
  have H2 : Hid (∀ w, Tab w → Calls Tryd.prog 24 #[.int .i64 n] w fun e w' => e = .returned (.string r) ∧ Below w.heap.size w w') := H2
  clear hT
  go_enter Tryd.func13, Tryd.ntmps13
  go_wp2_with fail
  refine (H1.out _).mono ?_
  rintro e w1 ⟨rfl, hb1⟩
  go_wp2_with fail
  refine (H2.out _ (by exact HT.out.below hb1)).mono ?_
  rintro e w2 ⟨rfl, hb2⟩
  go_wp2_with fail
  go_ret
  exact ⟨rfl, hb1.trans (hb2.mono hb1.size)⟩
end Go.Proofs.YtgbkpifkmkjbaaaDoor
