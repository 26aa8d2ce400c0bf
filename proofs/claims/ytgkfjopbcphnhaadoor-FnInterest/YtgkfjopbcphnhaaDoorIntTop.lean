/- The law FnInterest: what its call does. -/
import Derived.Test.YtgkfjopbcphnhaaDoorMonTop
import Derived.Test.YtgkfjopbcphnhaaDoorIntMath
import Derived.Test.YtgkfjopbcphnhaaDoorIntS
import Derived.Test.YtgkfjopbcphnhaaDoorBytes
namespace Go.Proofs.YtgkfjopbcphnhaaDoor
open Go.RowKit

theorem lay_drew {w : World} (h : Lay w) : Lay w.drew := h
theorem bDrewN {B : Nat} {a w : World} (h : Below B a w) (n : Nat) : Below B a (w.drewN n) := ⟨h.os, h.tape, h.output, h.size, h.block⟩
set_option maxRecDepth 100000 in
set_option maxHeartbeats 80000000 in
theorem law_interests (a0 : Option Addr) (len cap : Nat) (zs : List Int) (a1 : Option Addr) (len1 cap1 : Nat) (zs1 : List Int) (w : World) (hM : Mon w) (hL : Lay w) (hrow : Draw.IsRow .u8 w a0 len cap zs) (hrow1 : Draw.IsRow .u8 w a1 len1 cap1 zs1) :
    Calls Tryd.prog 3 #[.slice a0 len cap, .slice a1 len1 cap1] w fun e w' => e = .returned (.bool true) ∧ Below w.heap.size w w' := by
  have hlm : len ≤ 9223372036854775807 := by
    rcases hrow with ⟨_, rfl, _⟩ | ⟨x, rfl, hl, hm, _⟩
    · omega
    · unfold maxLen at hm; omega
  have hlm1 : len1 ≤ 9223372036854775807 := by
    rcases hrow1 with ⟨_, rfl, _⟩ | ⟨x, rfl, hl, hm, _⟩
    · omega
    · unfold maxLen at hm; omega
  have HL : Hid (Lay w) := hL
  have HM : Hid (Mon w) := hM
  clear hL hM
  by_cases hbig : 1048576 < (len : Int)
  · have tb : decide (1048576 < (len : Int)) = true := by simpa using hbig
    go_enter Tryd.func3, Tryd.ntmps3
    go_wp2_with fail
    go_ret
    exact ⟨rfl, Below.refl _ _⟩
  have tb : decide (1048576 < (len : Int)) = false := by simpa using hbig
  by_cases hbig1 : 1048576 < (len1 : Int)
  · have tb1 : decide (1048576 < (len1 : Int)) = true := by simpa using hbig1
    go_enter Tryd.func3, Tryd.ntmps3
    go_wp2_with fail
    go_ret
    exact ⟨rfl, Below.refl _ _⟩
  have tb1 : decide (1048576 < (len1 : Int)) = false := by simpa using hbig1
  have HW : Hid (∀ (p : Nat), p ≤ 1 → ∀ W, Below w.heap.size w W → Calls Tryd.prog 15 #[.slice a1 len1 cap1, .int .i64 p, .int .i64 256] W fun e w' => ∃ r : Nat, e = .returned (.int .i64 r) ∧ Draw.Under 256 r ∧ w' = W) := fun p hp W hb => Draw.lw_at hrow1 (by omega) W hb p (by omega) 256 (by omega) (by omega)
  clear hrow1
  go_enter Tryd.func3, Tryd.ntmps3
  go_wp2_with fail
  refine (Draw.draw_interest hrow (by omega) w (Below.refl _ _)).mono ?_
  rintro e w1 ⟨n, rate, basis, a, b, rfl, hb1⟩
  have HI : Hid (∀ w, Mon w → Lay w → Calls Tryd.prog 13 #[.int .i64 n, .int .i64 rate, .int .i64 basis, .int .i64 a, .int .i64 b] w fun e w' => e = .returned (moneyV (interestB n rate basis a b)) ∧ Below w.heap.size w w') := fun w hM hL => impl_Interest n rate basis a b w hM hL
  have HS : Hid (∀ w, Calls Tryd.prog 14 #[.int .i64 n, .int .i64 rate, .int .i64 basis, .int .i64 a, .int .i64 b] w fun e w' => e = .returned (moneyV (interestB n rate basis a b)) ∧ Below w.heap.size w w') := fun w => spec_interest n rate basis a b w
  obtain ⟨N, c, hR⟩ : ∃ N c, interestB n rate basis a b = (N, c) := ⟨_, _, rfl⟩
  simp only [hR, moneyV] at HI HS
  have HR : Hid (interestB n rate basis a b = (N, c)) := hR
  have HB1 : Hid (Below w.heap.size w w1) := hb1
  clear hR hb1 hrow
  go_wp2_with fail
  refine (HI.out _ (by exact HM.out.below HB1.out) (by exact HL.out.below HB1.out)).mono ?_
  rintro e w2 ⟨rfl, hb2⟩
  have HB2 : Hid (Below w.heap.size w w2) := HB1.out.trans (hb2.mono HB1.out.size)
  clear hb2
  go_upto_region 5 with fail
  go_cut [44] (fun s wx => s = .bool false ∧ (∀ j, wx.cell? ⟨w2.heap.size, j, none⟩ = (#[Value.int .i64 N, .int .i64 c] : Array Value)[j]?) ∧ w2.heap.size < wx.heap.size ∧ Hid (Below w.heap.size w wx))
  case first =>
    go_region_with (go_at_call 14; refine (HS.out _).mono ?_; rintro e w3 ⟨rfl, hb3⟩; obtain ⟨z3, X3⟩ := drew_new hb3)
    all_goals
      have HB3 : Hid (Below w.heap.size w w3) := ((HB2.out.alloc HB2.out.size _).drew).trans (hb3.mono (by have := HB2.out.size; simp; omega))
      clear hb3
      go_wp2_with fail
      go_meet
      exact ⟨by simp, X3, z3, HB3⟩
  case rest =>
  obtain ⟨rfl, X, z2, HBc⟩ := hcut
  clear HB2 HS HI
  by_cases cz : c = 0
  case neg =>
    have t2 : (c != 0) = true := by rw [bne_iff_ne]; exact cz
    go_wp2_with fail
    go_ret
    exact ⟨rfl, HBc.out⟩
  subst cz
  obtain ⟨n0, n1, hrb, hsp, _, _⟩ := interest_parts HR.out
  obtain ⟨s0, s1, hda, hdb, hab⟩ := span_cond hsp
  obtain ⟨da0, da1⟩ := (dayRB_iff a).1 hda
  obtain ⟨db0, db1⟩ := (dayRB_iff b).1 hdb
  have HSP : Hid ((spanB basis a b).2 = 0) := hsp
  clear hrb hsp hda hdb
  go_wp2_with fail
  refine (HW.out 0 (by omega) _ HBc.out).mono ?_
  rintro e w4 ⟨r0, rfl, hr0, hw4⟩
  subst hw4
  have q0 : (r0 : Int) < 256 := hr0.1 (by omega)
  clear hr0
  go_wp2_with fail
  refine (HW.out 1 (by omega) _ HBc.out).mono ?_
  rintro e w4' ⟨r1, rfl, hr1, hw4⟩
  subst hw4
  have q1 : (r1 : Int) < 256 := hr1.1 (by omega)
  clear hr1
  have hqb : 0 ≤ ((r0 : Int) * 256 + r1) % (b - a + 1) ∧ ((r0 : Int) * 256 + r1) % (b - a + 1) < b - a + 1 := ⟨Int.emod_nonneg _ (by omega), Int.emod_lt_of_pos _ (by omega)⟩
  obtain ⟨q, hq⟩ : ∃ q, ((r0 : Int) * 256 + r1) % (b - a + 1) = q := ⟨_, rfl⟩
  rw [hq] at hqb
  obtain ⟨qq0, qq1⟩ := hqb
  have hne : ¬ b - a + 1 = 0 := by omega
  have hnb : (b - a + 1 == 0) = false := beq_eq_false_iff_ne.2 hne
  obtain ⟨p1, p2, p3⟩ := span_parts HSP.out (show a ≤ a + q by omega) (show a + q ≤ b by omega)
  have K1 : Hid (∀ w, Mon w → Lay w → Calls Tryd.prog 16 #[.int .i64 basis, .int .i64 a, .int .i64 (a + q)] w fun e w' => e = .returned (moneyV (spanB basis a (a + q))) ∧ Below w.heap.size w w') := fun w hM hL => impl_Span _ _ _ w hM hL
  have K2 : Hid (∀ w, Mon w → Lay w → Calls Tryd.prog 16 #[.int .i64 basis, .int .i64 (a + q), .int .i64 b] w fun e w' => e = .returned (moneyV (spanB basis (a + q) b)) ∧ Below w.heap.size w w') := fun w hM hL => impl_Span _ _ _ w hM hL
  have K3 : Hid (∀ w, Mon w → Lay w → Calls Tryd.prog 16 #[.int .i64 basis, .int .i64 a, .int .i64 b] w fun e w' => e = .returned (moneyV (spanB basis a b)) ∧ Below w.heap.size w w') := fun w hM hL => impl_Span _ _ _ w hM hL
  have l1 := span_le p1
  have l2 := span_le p2
  have hsp := HSP.out
  clear HSP
  generalize spanB basis a (a + q) = S1 at *
  generalize spanB basis (a + q) b = S2 at *
  generalize spanB basis a b = S3 at *
  obtain ⟨u1, v1⟩ := S1
  obtain ⟨u2, v2⟩ := S2
  obtain ⟨u3, v3⟩ := S3
  simp only [moneyV] at p1 p2 p3 hsp K1 K2 K3 l1 l2
  subst p1 p2 hsp
  obtain ⟨l10, l11⟩ := l1
  obtain ⟨l20, l21⟩ := l2
  have P3 : Hid (basis ≠ 3 → u3 = u1 + u2) := p3
  clear p3
  go_wp2_with fail
  refine (K1.out _ (by exact HM.out.below HBc.out) (by exact HL.out.below HBc.out)).mono ?_
  rintro e w5 ⟨rfl, hb5⟩
  have z5 : w2.heap.size < w5.heap.size := by have := hb5.size; omega
  have X5 := keep hb5 z2 X
  have HB5 : Hid (Below w.heap.size w w5) := HBc.out.trans (hb5.mono HBc.out.size)
  clear hb5 X
  have X5' := fun o => past_cells (o := o) z5 X5
  go_wp2_with fail
  refine (K2.out _ (by exact HM.out.below (HB5.out.alloc HB5.out.size _)) (by exact HL.out.below (HB5.out.alloc HB5.out.size _))).mono ?_
  rintro e w6 ⟨rfl, hb6⟩
  have z6 : w5.heap.size < w6.heap.size := by have := hb6.size; simp at this; omega
  have z26 : w2.heap.size < w6.heap.size := by omega
  have A6 := new_cells hb6
  have X6 := keep hb6 (by simp; omega) (X5' _)
  have HB6 : Hid (Below w.heap.size w w6) := (HB5.out.alloc HB5.out.size _).trans (hb6.mono (by have := HB5.out.size; simp; omega))
  clear hb6 X5 X5'
  have X6' := fun o => past_cells (o := o) z26 X6
  have A6' := fun o => past_cells (o := o) z6 A6
  go_upto_region 12 with fail
  go_cut [93] (fun s wx => s = .bool false ∧ (∀ j, wx.cell? ⟨w2.heap.size, j, none⟩ = (#[Value.int .i64 N, .int .i64 0] : Array Value)[j]?) ∧ w2.heap.size < wx.heap.size ∧ Hid (Below w.heap.size w wx))
  case first =>
    by_cases c3 : basis = 3
    · have t3 : (basis != 3) = false := by simp [c3]
      clear c3 P3
      go_quiet (fail)
      go_wp2_with fail
      go_meet
      exact ⟨rfl, fun j => X6' _ j, by simp; omega, bDrewN (HB6.out.alloc HB6.out.size _) _⟩
    · have t3 : (basis != 3) = true := by rw [bne_iff_ne]; exact c3
      have e3 : u3 = u1 + u2 := P3.out c3
      have e4 : (u1 + u2 != u1 + u2) = false := by simp
      subst e3
      have wr1 : IntKind.i64.wrap (u1 + u2) = u1 + u2 := IntWalk.i64_in _ (by omega)
      have fld : ∀ w, (Instr.field 30 (.agg #[.int .i64 (u1 + u2), .int .i64 0]) 0).run Tryd.prog w = .ok (.int .i64 (u1 + u2)) w := fun w => by kernel_rfl
      clear c3 P3 X6' A6' n0 n1 da0 da1 db0 db1 hab q0 q1 qq0 qq1 hq hne hnb l10 l11 l20 l21 s0 s1 tb tb1 hbig hbig1 hlm hlm1 K1 K2 HW HR
      go_region_with (go_at_call 16; refine (K3.out _ (by exact (HM.out.below (HB6.out.alloc HB6.out.size _)).drewN 1) (by exact lay_drew (HL.out.below (HB6.out.alloc HB6.out.size _)))).mono ?_; rintro e w7 ⟨rfl, hb7⟩; obtain ⟨z7, B7⟩ := drew_new hb7; have A7 := drew_keep hb7 z6 A6)
      all_goals
        have X7 := drew_keep hb7 z26 X6
        have HB7 : Hid (Below w.heap.size w w7) := ((HB6.out.alloc HB6.out.size _).drew).trans (hb7.mono (by have := HB6.out.size; simp; omega))
        clear hb7
        go_wp2_with fail
        go_meet
        exact ⟨rfl, X7, by omega, HB7⟩
  case rest =>
  obtain ⟨rfl, X8, z8, HB8⟩ := hcut
  clear X6 A6 X6' A6' HB6 HB5 HBc K1 K2 K3 P3
  have HI0 : Hid (∀ w, Mon w → Lay w → Calls Tryd.prog 13 #[.int .i64 0, .int .i64 rate, .int .i64 basis, .int .i64 a, .int .i64 b] w fun e w' => e = .returned (.agg #[.int .i64 0, .int .i64 0]) ∧ Below w.heap.size w w') := fun w hM hL => by
    have h1 := impl_Interest 0 rate basis a b w hM hL
    rw [interest_none HR.out] at h1
    exact h1
  have HI1 : Hid (∀ w, Mon w → Lay w → Calls Tryd.prog 13 #[.int .i64 n, .int .i64 rate, .int .i64 basis, .int .i64 a, .int .i64 a] w fun e w' => e = .returned (.agg #[.int .i64 0, .int .i64 0]) ∧ Below w.heap.size w w') := fun w hM hL => by
    have h1 := impl_Interest n rate basis a a w hM hL
    rw [interest_nodays HR.out] at h1
    exact h1
  by_cases c4 : n < 1000000000000
  · have t4 : decide (n < 1000000000000) = true := by simpa using c4
    obtain ⟨N', c', hR'⟩ : ∃ N' c', interestB (n + 1) rate basis a b = (N', c') := ⟨_, _, rfl⟩
    have HZ : Hid (∀ w, Mon w → Lay w → Calls Tryd.prog 13 #[.int .i64 (n + 1), .int .i64 rate, .int .i64 basis, .int .i64 a, .int .i64 b] w fun e w' => e = .returned (.agg #[.int .i64 N', .int .i64 c']) ∧ Below w.heap.size w w') := fun w hM hL => by
      have h1 := impl_Interest (n + 1) rate basis a b w hM hL
      rw [hR'] at h1
      exact h1
    have HMo : Hid (c' = 0 → N ≤ N') := by
      intro h
      subst h
      exact interest_more HR.out hR'
    clear hR' HR
    go_wp2_with fail
    refine (HZ.out _ (by exact HM.out.below HB8.out) (by exact HL.out.below HB8.out)).mono ?_
    rintro e w9 ⟨rfl, hb9⟩
    have z9 : w2.heap.size < w9.heap.size := by have := hb9.size; omega
    have X9 := keep hb9 z8 X8
    have X9' := fun o => past_cells (o := o) z9 X9
    have HB9 : Hid (Below w.heap.size w w9) := HB8.out.trans (hb9.mono HB8.out.size)
    clear hb9 X8 X9
    have HBa : Hid (Below w.heap.size w (w9.alloc (.cells #[.int .i64 N', .int .i64 c'] 26))) := HB9.out.alloc HB9.out.size _
    by_cases cz : c' = 0
    · subst cz
      have hle := HMo.out rfl
      have tz : decide (N' < N) = false := by simp; omega
      go_wp2_with fail
      refine (HI0.out _ (by exact HM.out.below HBa.out) (by exact HL.out.below HBa.out)).mono ?_
      rintro e w10 ⟨rfl, hb10⟩
      have HB10 : Hid (Below w.heap.size w w10) := HBa.out.trans (hb10.mono HBa.out.size)
      clear hb10
      go_wp2_with fail
      refine (HI1.out _ (by exact HM.out.below HB10.out) (by exact HL.out.below HB10.out)).mono ?_
      rintro e w11 ⟨rfl, hb11⟩
      have HB11 : Hid (Below w.heap.size w w11) := HB10.out.trans (hb11.mono HB10.out.size)
      clear hb11
      go_wp2_with fail
      go_ret
      exact ⟨rfl, HB11.out⟩
    · have tz : (c' == 0) = false := beq_eq_false_iff_ne.2 cz
      clear cz
      go_wp2_with fail
      refine (HI0.out _ (by exact HM.out.below HBa.out) (by exact HL.out.below HBa.out)).mono ?_
      rintro e w10 ⟨rfl, hb10⟩
      have HB10 : Hid (Below w.heap.size w w10) := HBa.out.trans (hb10.mono HBa.out.size)
      clear hb10
      go_wp2_with fail
      refine (HI1.out _ (by exact HM.out.below HB10.out) (by exact HL.out.below HB10.out)).mono ?_
      rintro e w11 ⟨rfl, hb11⟩
      have HB11 : Hid (Below w.heap.size w w11) := HB10.out.trans (hb11.mono HB10.out.size)
      clear hb11
      go_wp2_with fail
      go_ret
      exact ⟨rfl, HB11.out⟩
  · have t4 : decide (n < 1000000000000) = false := by simpa using c4
    have HBa := HB8
    go_wp2_with fail
    refine (HI0.out _ (by exact HM.out.below HBa.out) (by exact HL.out.below HBa.out)).mono ?_
    rintro e w10 ⟨rfl, hb10⟩
    have HB10 : Hid (Below w.heap.size w w10) := HBa.out.trans (hb10.mono HBa.out.size)
    clear hb10
    go_wp2_with fail
    refine (HI1.out _ (by exact HM.out.below HB10.out) (by exact HL.out.below HB10.out)).mono ?_
    rintro e w11 ⟨rfl, hb11⟩
    have HB11 : Hid (Below w.heap.size w w11) := HB10.out.trans (hb11.mono HB10.out.size)
    clear hb11
    go_wp2_with fail
    go_ret
    exact ⟨rfl, HB11.out⟩
end Go.Proofs.YtgkfjopbcphnhaaDoor
