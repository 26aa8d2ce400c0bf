/- The law FnDates: what its call does. -/
import Derived.Test.YtgbkpifkmkjbaaaDoorMonTop
import Derived.Test.YtgbkpifkmkjbaaaDoorDrawE
import Derived.Test.YtgbkpifkmkjbaaaDoorDateFacts
import Derived.Test.YtgbkpifkmkjbaaaDoorDReadS
namespace Go.Proofs.YtgbkpifkmkjbaaaDoor
open Go.RowKit

theorem hb_drew {w w1 w2 : World} {o : Obj} (h : Below w.heap.size w w1) (hb : Below (w1.alloc o).drew.heap.size (w1.alloc o).drew w2) : Below w.heap.size w w2 :=
  ((h.alloc h.size _).drew).trans (hb.mono (by have := h.size; show w.heap.size ≤ (w1.alloc o).heap.size; simp; omega))
set_option maxRecDepth 100000 in
set_option maxHeartbeats 80000000 in
theorem law_dates (a0 : Option Addr) (len cap : Nat) (zs : List Int) (a1 : Option Addr) (len1 cap1 : Nat) (zs1 : List Int) (w : World) (hM : Mon w) (hT : Tab w) (hL : Lay w) (hrow : Draw.IsRow .u8 w a0 len cap zs) (hrow1 : Draw.IsRow .u8 w a1 len1 cap1 zs1) :
    Calls Tryd.prog 5 #[.slice a0 len cap, .slice a1 len1 cap1] w fun e w' => e = .returned (.bool true) ∧ Below w.heap.size w w' := by
  have hlm : len ≤ 9223372036854775807 := by
    rcases hrow with ⟨_, rfl, _⟩ | ⟨x, rfl, hl, hm, _⟩
    · omega
    · unfold maxLen at hm; omega
  have hlm1 : len1 ≤ 9223372036854775807 := by
    rcases hrow1 with ⟨_, rfl, _⟩ | ⟨x, rfl, hl, hm, _⟩
    · omega
    · unfold maxLen at hm; omega
  have HL : Hid (Lay w) := hL
  have HM : Hid (Mon w) := hM
  have HT : Hid (Tab w) := hT
  clear hL hM hT
  by_cases hbig : 1048576 < (len : Int)
  · have tb : decide (1048576 < (len : Int)) = true := by simpa using hbig
    go_enter Tryd.func5, Tryd.ntmps5
    go_wp2_with fail
    go_ret
    exact ⟨rfl, Below.refl _ _⟩
  have tb : decide (1048576 < (len : Int)) = false := by simpa using hbig
  by_cases hbig1 : 1048576 < (len1 : Int)
  · have tb1 : decide (1048576 < (len1 : Int)) = true := by simpa using hbig1
    go_enter Tryd.func5, Tryd.ntmps5
    go_wp2_with fail
    go_ret
    exact ⟨rfl, Below.refl _ _⟩
  have tb1 : decide (1048576 < (len1 : Int)) = false := by simpa using hbig1
  have HDr : Hid (∀ W, Below w.heap.size w W → Calls Tryd.prog 38 #[.slice a1 len1 cap1] W fun e w' => ∃ t : ByteArray, e = .returned (.string t) ∧ t.size ≤ 300 ∧ Below W.heap.size W w') := fun W hb => Draw.draw_dateRead hrow1 (by omega) W hb
  clear hrow1
  go_enter Tryd.func5, Tryd.ntmps5
  go_wp2_with fail
  refine (Draw.draw_dateOf hrow (by omega) w (Below.refl _ _)).mono ?_
  rintro e w1 ⟨day, rfl, ⟨x0, x1⟩, hb1⟩
  have HI : Hid (∀ w, Mon w → Calls Tryd.prog 33 #[.int .i64 day] w fun e w' => e = .returned (dateV (dateOfB day)) ∧ Below w.heap.size w w') := fun w hM => impl_dateOf day w hM
  have HS : Hid (∀ w, Calls Tryd.prog 34 #[.int .i64 day] w fun e w' => e = .returned (dateV (dateOfB day)) ∧ Below w.heap.size w w') := fun w => spec_dateOf day w
  obtain ⟨y, m, d, hR⟩ : ∃ y m d, dateOfB day = (y, m, d) := ⟨_, _, _, rfl⟩
  simp only [hR, dateV] at HI HS
  have HR : Hid (dateOfB day = (y, m, d)) := hR
  have HB1 : Hid (Below w.heap.size w w1) := hb1
  clear hR hb1 hrow
  go_wp2_with fail
  refine (HI.out _ (by exact HM.out.below HB1.out)).mono ?_
  rintro e w2 ⟨rfl, hb2⟩
  have HB2 : Hid (Below w.heap.size w w2) := HB1.out.trans (hb2.mono HB1.out.size)
  clear hb2
  go_upto_region 5 with fail
  go_cut [27] (fun s wx => s = .bool false ∧ (∀ j, wx.cell? ⟨w2.heap.size, j, none⟩ = (#[Value.int .i64 y, .int .i64 m, .int .i64 d] : Array Value)[j]?) ∧ w2.heap.size < wx.heap.size ∧ Hid (Below w.heap.size w wx))
  case first =>
    go_region_with (go_at_call 34; refine (HS.out _).mono ?_; rintro e w3 ⟨rfl, hb3⟩; obtain ⟨z3, X3⟩ := drew_new hb3)
    all_goals
      have HB3 : Hid (Below w.heap.size w w3) := ((HB2.out.alloc HB2.out.size _).drew).trans (hb3.mono (by have := HB2.out.size; simp; omega))
      clear hb3
      go_wp2_with fail
      go_meet
      exact ⟨by simp, X3, z3, HB3⟩
  case rest =>
  obtain ⟨rfl, X, z2, HBc⟩ := hcut
  clear HB2 HS HI
  go_upto_region 7 with fail
  go_cut [33] (fun s wx => s = .bool (dayRB day) ∧ wx = wc)
  case first =>
    by_cases c0 : 0 ≤ day
    · have t0 : decide (0 ≤ day) = true := by simpa using c0
      have HQ : Hid (dayRB day = decide (day ≤ 36524)) := by simp [Hid, dayRB, c0]
      clear c0
      go_wp2_with fail
      go_meet
      exact ⟨by rw [HQ.out], rfl⟩
    · have t0 : decide (0 ≤ day) = false := by simpa using c0
      have HQ : Hid (dayRB day = false) := by simp [Hid, dayRB, t0]
      clear c0
      go_wp2_with fail
      go_meet
      exact ⟨by rw [HQ.out], rfl⟩
  case rest =>
  obtain ⟨rfl, hw⟩ := hcut
  subst hw
  obtain ⟨r, hr⟩ : ∃ r, dayRB day = r := ⟨_, rfl⟩
  have HRr : Hid (dayRB day = r) := hr
  rw [hr]
  clear hr
  go_upto_if 33 with fail
  go_cut [] (fun wx => Hid (Below w.heap.size w wx))
  case first =>
    cases r
    · go_wp2_with fail
      go_meet
      exact HBc
    · have hrr := HRr.out
      obtain ⟨d0, d1⟩ := (dayRB_iff day).1 hrr
      have hI := dateB_is d0 d1
      have hyd : dateB day = (y, m, d) := by have := HR.out; rw [dateOfB, if_pos hrr] at this; exact this
      have K1 : Hid (∀ w, Mon w → Lay w → Calls Tryd.prog 35 #[.agg #[.int .i64 y, .int .i64 m, .int .i64 d]] w fun e w' => e = .returned (.agg #[.int .i64 day, .int .i64 0]) ∧ Below w.heap.size w w') := fun w hM hL => by
        have h1 := impl_dayOf y m d w hM hL
        have h2 := dayOf_date hrr
        rw [hyd] at h2
        have h3 : dayOfB y m d = (day, 0) := h2
        rw [h3] at h1
        exact h1
      have K2 : Hid (∀ w, Mon w → Tab w → Calls Tryd.prog 37 #[.int .i64 day] w fun e w' => e = .returned (.string (strB (dateT day))) ∧ Below w.heap.size w w') := fun w hM hT => impl_dateText day w hM hT
      have hlt : (strB (dateT day)).size ≤ 100 := by rw [strB_size]; have := Draw.dateT_short day; omega
      have K3 : Hid (∀ w, Mon w → Tab w → Lay w → Calls Tryd.prog 36 #[.string (strB (dateT day))] w fun e w' => e = .returned (.agg #[.int .i64 day, .int .i64 0]) ∧ Below w.heap.size w w') := fun w hM hT hL => by
        have h1 := impl_dateRead (strB (dateT day)) w (by unfold maxLen; omega) hM hT hL
        rw [bytesOf_strB, read_date hrr] at h1
        exact h1
      have K4 : Hid (∀ w, Mon w → Calls Tryd.prog 33 #[.int .i64 (day + 1)] w fun e w' => e = .returned (dateV (dateOfB (day + 1))) ∧ Below w.heap.size w w') := fun w hM => impl_dateOf (day + 1) w hM
      have HN : Hid (day < 36524 → ((dateOfB (day + 1)).1 = y ∧ (dateOfB (day + 1)).2.1 = m ∧ (dateOfB (day + 1)).2.2 = d + 1) ∨ ((dateOfB (day + 1)).2.2 = 1 ∧ 12 * (dateOfB (day + 1)).1 + (dateOfB (day + 1)).2.1 = 12 * y + m + 1)) := fun hlt => by
        have e : dateOfB (day + 1) = dateB (day + 1) := by rw [dateOfB, if_pos ((dayRB_iff _).2 (by omega))]
        rw [e]
        rw [hyd] at hI
        exact next_date hI (by omega)
      have HZ : Hid (¬ day < 36524 → dateOfB (day + 1) = (0, 0, 0)) := fun hn => by
        rw [dateOfB, if_neg]
        rw [dayRB_iff]; omega
      have HY : Hid (0 ≤ (dateOfB (day + 1)).1 ∧ (dateOfB (day + 1)).1 ≤ 2099 ∧ 0 ≤ (dateOfB (day + 1)).2.1 ∧ (dateOfB (day + 1)).2.1 ≤ 12) := by
        unfold dateOfB
        split
        · rename_i hb
          obtain ⟨p0, p1⟩ := (dayRB_iff _).1 hb
          have hJ := dateB_is p0 p1
          have := hJ.y0; have := hJ.y1; have := hJ.m0; have := hJ.m1
          exact ⟨by omega, by omega, by omega, by omega⟩
        · exact ⟨by simp, by simp, by simp, by simp⟩
      rw [hyd] at hI
      have a0' := hI.y0
      have a1' := hI.y1
      have a2' := hI.m0
      have a3' := hI.m1
      have a4' := hI.d0
      have a5' : d ≤ 31 := by have h1 := hI.d1; have h2 := len_le y m; simp only at h1; omega
      simp only at a0' a1' a2' a3' a4'
      clear hI hyd hrr HRr HR
      generalize strB (dateT day) = E at *
      generalize dateOfB (day + 1) = F at *
      obtain ⟨yf, mf, df⟩ := F
      simp only [dateV] at K4 HN HY
      obtain ⟨g0, g1, g2, g3⟩ := HY.out
      clear HY
      have e0 : (day != day) = false := by simp
      go_wp2_with fail
      refine (K1.out _ (by exact HM.out.below HBc.out) (by exact HL.out.below HBc.out)).mono ?_
      rintro e w4 ⟨rfl, hb4⟩
      have z4 : w2.heap.size < w4.heap.size := by have := hb4.size; omega
      have X4 := keep hb4 z2 X
      have HB4 : Hid (Below w.heap.size w w4) := HBc.out.trans (hb4.mono HBc.out.size)
      clear hb4
      go_wp2_with fail
      refine (K2.out _ (by exact HM.out.below HB4.out) (by exact HT.out.below HB4.out)).mono ?_
      rintro e w5 ⟨rfl, hb5⟩
      have z5 : w2.heap.size < w5.heap.size := by have := hb5.size; omega
      have X5 := keep hb5 z4 X4
      have HB5 : Hid (Below w.heap.size w w5) := HB4.out.trans (hb5.mono HB4.out.size)
      clear hb5 X4
      go_wp2_with fail
      refine (K3.out _ (by exact HM.out.below HB5.out) (by exact HT.out.below HB5.out) (by exact HL.out.below HB5.out)).mono ?_
      rintro e w6 ⟨rfl, hb6⟩
      have z6 : w2.heap.size < w6.heap.size := by have := hb6.size; omega
      have X6 := keep hb6 z5 X5
      have HB6 : Hid (Below w.heap.size w w6) := HB5.out.trans (hb6.mono HB5.out.size)
      clear hb6 X5
      go_wp2_with fail
      refine (K4.out _ (by exact HM.out.below HB6.out)).mono ?_
      rintro e w7 ⟨rfl, hb7⟩
      have z7 : w2.heap.size < w7.heap.size := by have := hb7.size; omega
      have X7 := keep hb7 z6 X6
      have X7' := fun o => past_cells (o := o) z7 X7
      have HB7 : Hid (Below w.heap.size w w7) := HB6.out.trans (hb7.mono HB6.out.size)
      clear hb7 X6 K1 K2 K3 K4 X
      by_cases c1 : day < 36524
      case neg =>
        have t1 : decide (day < 36524) = false := by simpa using c1
        have hz := HZ.out (by omega)
        simp only [Prod.mk.injEq] at hz
        obtain ⟨rfl, rfl, rfl⟩ := hz
        have t2 : ((0 : Int) == y) = false := beq_eq_false_iff_ne.2 (by omega)
        have t5 : ((0 : Int) == 1) = false := rfl
        clear HN HZ c1
        go_wp2_with fail
        go_meet
        exact HB7.out.alloc HB7.out.size _
      have t1 : decide (day < 36524) = true := by simpa using c1
      rcases HN.out c1 with ⟨rfl, rfl, rfl⟩ | ⟨rfl, hsum⟩
      · have s1 : (yf == yf) = true := by simp
        have s2 : (mf == mf) = true := by simp
        have s3 : (d + 1 == d + 1) = true := by simp
        by_cases q1 : d + 1 = 1
        · omega
        · have t2 : (d + 1 == 1) = false := beq_eq_false_iff_ne.2 q1
          clear HN HZ q1 c1
          go_wp2_with fail
          go_meet
          exact HB7.out.alloc HB7.out.size _
      · have s1 : (12 * yf + mf == 12 * y + m + 1) = true := by rw [beq_iff_eq]; exact hsum
        have s2 : ((1 : Int) == 1) = true := rfl
        clear HN HZ c1 hsum
        by_cases q1 : yf = y
        · have t2 : (yf == y) = true := by rw [beq_iff_eq]; exact q1
          by_cases q2 : mf = m
          · have t3 : (mf == m) = true := by rw [beq_iff_eq]; exact q2
            have t4 : ((1 : Int) == d + 1) = false := beq_eq_false_iff_ne.2 (by omega)
            clear q1 q2
            go_wp2_with fail
            go_meet
            exact HB7.out.alloc HB7.out.size _
          · have t3 : (mf == m) = false := beq_eq_false_iff_ne.2 q2
            clear q1 q2
            go_wp2_with fail
            go_meet
            exact HB7.out.alloc HB7.out.size _
        · have t2 : (yf == y) = false := beq_eq_false_iff_ne.2 q1
          clear q1
          go_wp2_with fail
          go_meet
          exact HB7.out.alloc HB7.out.size _
  case rest =>
  have HB8 := hcut
  clear hcut HBc HR HRr X
  go_wp2_with fail
  refine (HDr.out _ HB8.out).mono ?_
  rintro e w9 ⟨t, rfl, ht, hb9⟩
  have HB9 : Hid (Below w.heap.size w w9) := HB8.out.trans (hb9.mono HB8.out.size)
  clear hb9
  have htm : t.size ≤ maxLen := by unfold maxLen; omega
  have K5 : Hid (∀ w, Mon w → Tab w → Lay w → Calls Tryd.prog 36 #[.string t] w fun e w' => e = .returned (moneyV (readDt (bytesOf t))) ∧ Below w.heap.size w w') := fun w hM hT hL => impl_dateRead t w htm hM hT hL
  have K6 : Hid (∀ w, Calls Tryd.prog 39 #[.string t] w fun e w' => e = .returned (moneyV (readDt (bytesOf t))) ∧ Below w.heap.size w w') := fun w => spec_dateRead t w htm
  obtain ⟨N, c, hR⟩ : ∃ N c, readDt (bytesOf t) = (N, c) := ⟨_, _, rfl⟩
  simp only [hR, moneyV] at K5 K6
  have HR : Hid (readDt (bytesOf t) = (N, c)) := hR
  clear hR
  go_wp2_with fail
  refine (K5.out _ (by exact HM.out.below HB9.out) (by exact HT.out.below HB9.out) (by exact HL.out.below HB9.out)).mono ?_
  rintro e w10 ⟨rfl, hb10⟩
  have HB10 : Hid (Below w.heap.size w w10) := HB9.out.trans (hb10.mono HB9.out.size)
  have HMa : Hid (Mon (w10.alloc (.cells #[.int .i64 N, .int .i64 c] 42))) := (HM.out.below HB10.out).alloc _
  clear hb10 K5
  go_upto_region 17 with fail
  by_cases cz : c = 0
  · subst cz
    have K7 : Hid (∀ w, Mon w → Tab w → Calls Tryd.prog 37 #[.int .i64 N] w fun e w' => e = .returned (.string t) ∧ Below w.heap.size w w') := fun w hM hT => by
      have h1 := impl_dateText N w hM hT
      rw [read_text HR.out, strB_bytesOf] at h1
      exact h1
    clear HR x0 x1 tb tb1 hlm hlm1 hbig hbig1 ht htm
    go_region_with (first | (go_at_call 39; refine (K6.out _).mono ?_; rintro e w11 ⟨rfl, hb11⟩; obtain ⟨z11, X11⟩ := drew_new hb11; have HB11 : Hid (Below w.heap.size w w11) := hb_drew HB10.out hb11) | (go_at_call 37; refine (K7.out _ (by exact HM.out.below HB11.out) (by exact HT.out.below HB11.out)).mono ?_; rintro e w12 ⟨rfl, hb12⟩))
    all_goals
      have HB12 : Hid (Below w.heap.size w w12) := HB11.out.trans (hb12.mono HB11.out.size)
      clear hb11 hb12
      go_wp2_with fail
      go_ret
      exact ⟨rfl, HB12.out⟩
  · have t1 : (c != 0) = true := by rw [bne_iff_ne]; exact cz
    have t2 : (c == 0) = false := beq_eq_false_iff_ne.2 cz
    have t3 : (c == c) = true := by simp
    have t4 : (N == N) = true := by simp
    clear HR x0 x1 tb tb1 hlm hlm1 hbig hbig1 ht htm
    refine wp_region_any (by kernel_rfl) ?_
    try (change wpAny _ _ _ _ _ _ _ (World.drew _))
    refine wpAny_take (i := 1) (v := ?_) rfl (by kernel_rfl) (by kernel_rfl) (by kernel_rfl) (fun _ _ _ h => h) (Or.inl ⟨by rfl, ?_⟩) ?_
    rotate_left 1
    · first | (intro w; go_simp; done) | (intro w; go_simp; with_reducible rfl)
    refine wpAny_ready (rs := [0, 2]) (by kernel_rfl) (by simp) ?_
    refine AllReady.cons rfl (fun K hK => ?_) (AllReady.cons rfl (fun K hK => ?_) AllReady.nil)
    · go_simp
      refine hK _ _ ?_
      clear hK K
      refine wpAny_ready (rs := [2]) (by kernel_rfl) (by simp) ?_
      refine AllReady.cons rfl (fun K hK => ?_) AllReady.nil
      go_simp
      go_wp2_with (first | (go_at_call 39; refine (K6.out _).mono ?_; rintro e w11 ⟨rfl, hb11⟩; obtain ⟨z11, X11⟩ := drew_new hb11; have HB11 : Hid (Below w.heap.size w w11) := hb_drew HB10.out hb11))
      refine wpAny_take (i := 3) (v := ?_) rfl (by kernel_rfl) (by kernel_rfl) (by kernel_rfl) (fun _ _ _ h => h) (Or.inl ⟨by rfl, ?_⟩) ?_
      rotate_left 1
      · first | (intro w; go_simp; done) | (intro w; go_simp; with_reducible rfl)
      refine wpAny_take (i := 4) (v := ?_) rfl (by kernel_rfl) (by kernel_rfl) (by kernel_rfl) (fun _ _ _ h => h) (Or.inl ⟨by rfl, ?_⟩) ?_
      rotate_left 1
      · first | (intro w; go_simp; done) | (intro w; go_simp; with_reducible rfl)
      refine wpAny_take (i := 5) (v := ?_) rfl (by kernel_rfl) (by kernel_rfl) (by kernel_rfl) (fun _ _ _ h => h) (Or.inl ⟨by rfl, ?_⟩) ?_
      rotate_left 1
      · first | (intro w; go_simp; done) | (intro w; go_simp; with_reducible rfl)
      refine wpAny_ready (rs := [6]) (by kernel_rfl) (by simp) ?_
      refine AllReady.cons rfl (fun K hK => ?_) AllReady.nil
      go_simp
      refine hK _ _ ?_
      clear hK K
      refine wpAny_take (i := 7) (v := ?_) rfl (by kernel_rfl) (by kernel_rfl) (by kernel_rfl) (fun _ _ _ h => h) (Or.inl ⟨by rfl, ?_⟩) ?_
      rotate_left 1
      · first | (intro w; go_simp; done) | (intro w; go_simp; with_reducible rfl)
      refine wpAny_take (i := 8) (v := ?_) rfl (by kernel_rfl) (by kernel_rfl) (by kernel_rfl) (fun _ _ _ h => h) (Or.inl ⟨by rfl, ?_⟩) ?_
      rotate_left 1
      · first | (intro w; go_simp; done) | (intro w; go_simp; with_reducible rfl)
      refine wpAny_take (i := 9) (v := undef) rfl (by kernel_rfl) (by kernel_rfl) (by kernel_rfl) (fun _ _ _ h => h) (Or.inr ⟨by rfl, rfl⟩) ?_
      refine wpAny_take (i := 12) (v := undef) rfl (by kernel_rfl) (by kernel_rfl) (by kernel_rfl) (fun _ _ _ h => h) (Or.inr ⟨by rfl, rfl⟩) ?_
      refine wpAny_ready (rs := [10]) (by kernel_rfl) (by simp) ?_
      refine AllReady.cons rfl (fun K hK => ?_) AllReady.nil
      go_simp
      refine hK _ _ ?_
      clear hK K
      refine wpAny_ready (rs := [11]) (by kernel_rfl) (by simp) ?_
      refine AllReady.cons rfl (fun K hK => ?_) AllReady.nil
      go_simp
      refine hK _ _ ?_
      clear hK K
      refine wpAny_take (i := 13) (v := undef) rfl (by kernel_rfl) (by kernel_rfl) (by kernel_rfl) (fun _ _ _ h => h) (Or.inr ⟨by rfl, rfl⟩) ?_
      refine wpAny_take (i := 14) (v := ?_) rfl (by kernel_rfl) (by kernel_rfl) (by kernel_rfl) (fun _ _ _ h => h) (Or.inl ⟨by rfl, ?_⟩) ?_
      rotate_left 1
      · first | (intro w; go_simp; done) | (intro w; go_simp; with_reducible rfl)
      refine wpAny_take (i := 15) (v := ?_) rfl (by kernel_rfl) (by kernel_rfl) (by kernel_rfl) (fun _ _ _ h => h) (Or.inl ⟨by rfl, ?_⟩) ?_
      rotate_left 1
      · first | (intro w; go_simp; done) | (intro w; go_simp; with_reducible rfl)
      refine wpAny_take (i := 16) (v := ?_) rfl (by kernel_rfl) (by kernel_rfl) (by kernel_rfl) (fun _ _ _ h => h) (Or.inl ⟨by rfl, ?_⟩) ?_
      rotate_left 1
      · first | (intro w; go_simp; done) | (intro w; go_simp; with_reducible rfl)
      refine wpAny_done (by kernel_rfl) ?_ _
      clear hb11
      go_wp2_with fail
      go_ret
      exact ⟨rfl, HB11.out⟩
    · go_simp
      go_wp2_with (first | (go_at_call 39; refine (K6.out _).mono ?_; rintro e w11 ⟨rfl, hb11⟩; obtain ⟨z11, X11⟩ := drew_new hb11; have HB11 : Hid (Below w.heap.size w w11) := hb_drew HB10.out hb11))
      refine wpAny_ready (rs := [0]) (by kernel_rfl) (by simp) ?_
      refine AllReady.cons rfl (fun K hK => ?_) AllReady.nil
      go_simp
      refine hK _ _ ?_
      clear hK K
      refine wpAny_take (i := 3) (v := ?_) rfl (by kernel_rfl) (by kernel_rfl) (by kernel_rfl) (fun _ _ _ h => h) (Or.inl ⟨by rfl, ?_⟩) ?_
      rotate_left 1
      · first | (intro w; go_simp; done) | (intro w; go_simp; with_reducible rfl)
      refine wpAny_take (i := 4) (v := ?_) rfl (by kernel_rfl) (by kernel_rfl) (by kernel_rfl) (fun _ _ _ h => h) (Or.inl ⟨by rfl, ?_⟩) ?_
      rotate_left 1
      · first | (intro w; go_simp; done) | (intro w; go_simp; with_reducible rfl)
      refine wpAny_take (i := 5) (v := ?_) rfl (by kernel_rfl) (by kernel_rfl) (by kernel_rfl) (fun _ _ _ h => h) (Or.inl ⟨by rfl, ?_⟩) ?_
      rotate_left 1
      · first | (intro w; go_simp; done) | (intro w; go_simp; with_reducible rfl)
      refine wpAny_ready (rs := [6]) (by kernel_rfl) (by simp) ?_
      refine AllReady.cons rfl (fun K hK => ?_) AllReady.nil
      go_simp
      refine hK _ _ ?_
      clear hK K
      refine wpAny_take (i := 7) (v := ?_) rfl (by kernel_rfl) (by kernel_rfl) (by kernel_rfl) (fun _ _ _ h => h) (Or.inl ⟨by rfl, ?_⟩) ?_
      rotate_left 1
      · first | (intro w; go_simp; done) | (intro w; go_simp; with_reducible rfl)
      refine wpAny_take (i := 8) (v := ?_) rfl (by kernel_rfl) (by kernel_rfl) (by kernel_rfl) (fun _ _ _ h => h) (Or.inl ⟨by rfl, ?_⟩) ?_
      rotate_left 1
      · first | (intro w; go_simp; done) | (intro w; go_simp; with_reducible rfl)
      refine wpAny_take (i := 9) (v := undef) rfl (by kernel_rfl) (by kernel_rfl) (by kernel_rfl) (fun _ _ _ h => h) (Or.inr ⟨by rfl, rfl⟩) ?_
      refine wpAny_take (i := 12) (v := undef) rfl (by kernel_rfl) (by kernel_rfl) (by kernel_rfl) (fun _ _ _ h => h) (Or.inr ⟨by rfl, rfl⟩) ?_
      refine wpAny_ready (rs := [10]) (by kernel_rfl) (by simp) ?_
      refine AllReady.cons rfl (fun K hK => ?_) AllReady.nil
      go_simp
      refine hK _ _ ?_
      clear hK K
      refine wpAny_ready (rs := [11]) (by kernel_rfl) (by simp) ?_
      refine AllReady.cons rfl (fun K hK => ?_) AllReady.nil
      go_simp
      refine hK _ _ ?_
      clear hK K
      refine wpAny_take (i := 13) (v := undef) rfl (by kernel_rfl) (by kernel_rfl) (by kernel_rfl) (fun _ _ _ h => h) (Or.inr ⟨by rfl, rfl⟩) ?_
      refine wpAny_take (i := 14) (v := ?_) rfl (by kernel_rfl) (by kernel_rfl) (by kernel_rfl) (fun _ _ _ h => h) (Or.inl ⟨by rfl, ?_⟩) ?_
      rotate_left 1
      · first | (intro w; go_simp; done) | (intro w; go_simp; with_reducible rfl)
      refine wpAny_take (i := 15) (v := ?_) rfl (by kernel_rfl) (by kernel_rfl) (by kernel_rfl) (fun _ _ _ h => h) (Or.inl ⟨by rfl, ?_⟩) ?_
      rotate_left 1
      · first | (intro w; go_simp; done) | (intro w; go_simp; with_reducible rfl)
      refine wpAny_take (i := 16) (v := ?_) rfl (by kernel_rfl) (by kernel_rfl) (by kernel_rfl) (fun _ _ _ h => h) (Or.inl ⟨by rfl, ?_⟩) ?_
      rotate_left 1
      · first | (intro w; go_simp; done) | (intro w; go_simp; with_reducible rfl)
      refine wpAny_done (by kernel_rfl) ?_ _
      clear hb11
      go_wp2_with fail
      go_ret
      exact ⟨rfl, HB11.out⟩
end Go.Proofs.YtgbkpifkmkjbaaaDoor
