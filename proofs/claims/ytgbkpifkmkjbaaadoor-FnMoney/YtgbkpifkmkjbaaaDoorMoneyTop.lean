/- The law FnMoney: what its call does. -/
import Derived.Test.YtgbkpifkmkjbaaaDoorDrawT
import Derived.Test.YtgbkpifkmkjbaaaDoorReadLaw
import Derived.Deep.RegionWith
import Derived.Deep.DeepCutAuto
namespace Go.Proofs.YtgbkpifkmkjbaaaDoor
open Go.RowKit

theorem addB_back (x y : Int) (h : (addB x y).2 = 0) : (addB x y).1 = x + y ∧ addB (x + y) (-y) = (x, 0) ∧ (-1000000000000 ≤ y ∧ y ≤ 1000000000000) := by
  unfold addB at *
  cases hx : rightB x
  · rw [hx] at h; simp at h
  · cases hy : rightB y
    · rw [hx, hy] at h; simp at h
    · rw [hx, hy] at h
      simp only [Bool.and_self, if_true] at h ⊢
      unfold outB at h
      cases hs : rightB (x + y)
      · rw [hs] at h; simp at h
      · have hx' := (rightB_iff x).1 hx
        have hy' := (rightB_iff y).1 hy
        have hn : rightB (-y) = true := rightB_yes (by omega) (by omega)
        refine ⟨?_, ?_, hy'⟩
        · unfold outB; rw [hs]; rfl
        · rw [hn]
          simp only [Bool.and_self, if_true]
          rw [show x + y + -y = x by omega]
          exact outB_ok hx'.1 hx'.2
theorem rateT_nil (x : Int) (h : ¬ strB (rateT x) = { data := #[] }) : 0 ≤ x ∧ x ≤ 1000000 := by
  rcases Classical.em (0 ≤ x ∧ x ≤ 1000000) with h1 | h1
  · exact h1
  · exfalso
    apply h
    unfold rateT
    rw [if_neg h1]; rfl

set_option maxRecDepth 100000 in
set_option maxHeartbeats 8000000 in
theorem law_moneys (a : Option Addr) (len cap : Nat) (zs : List Int) (a' : Option Addr) (len' cap' : Nat) (zs' : List Int) (w : World) (hT : Tab w) (hL : Lay w) (hrow : Draw.IsRow .u8 w a len cap zs) (hrow' : Draw.IsRow .u8 w a' len' cap' zs') :
    Calls Tryd.prog 3 #[.slice a len cap, .slice a' len' cap'] w fun e w' => e = .returned (.bool true) ∧ Below w.heap.size w w' := by
  have hlm : len ≤ 9223372036854775807 := by
    rcases hrow with ⟨_, rfl, _⟩ | ⟨x, rfl, hl, hm, _⟩
    · omega
    · unfold maxLen at hm; omega
  have hlm' : len' ≤ 9223372036854775807 := by
    rcases hrow' with ⟨_, rfl, _⟩ | ⟨x, rfl, hl, hm, _⟩
    · omega
    · unfold maxLen at hm; omega
  have HL : Hid (Lay w) := hL
  have HT : Hid (Tab w) := hT
  clear hL hT
  by_cases hbig : 1048576 < (len : Int)
  · have t1 : decide (1048576 < (len : Int)) = true := by simp; omega
    go_enter Tryd.func3, Tryd.ntmps3
    go_wp2_with fail
    go_ret
    exact ⟨rfl, Below.refl _ _⟩
  have t1 : decide (1048576 < (len : Int)) = false := by simp; omega
  by_cases hbig' : 1048576 < (len' : Int)
  · have t2 : decide (1048576 < (len' : Int)) = true := by simp; omega
    go_enter Tryd.func3, Tryd.ntmps3
    go_wp2_with fail
    go_ret
    exact ⟨rfl, Below.refl _ _⟩
  have t2 : decide (1048576 < (len' : Int)) = false := by simp; omega
  have HW : Hid (Draw.IsRow .u8 w a len cap zs) := hrow
  have HW' : Hid (Draw.IsRow .u8 w a' len' cap' zs') := hrow'
  clear hrow hrow'
  go_enter Tryd.func3, Tryd.ntmps3
  go_wp2_with fail
  refine (Draw.draw_moneyAdd HW.out (by omega) w (Below.refl _ _)).mono ?_
  rintro e w1 ⟨x, y, rfl, ⟨x0, x1⟩, ⟨y0, y1⟩, hb1⟩
  have HI : Hid (∀ w, Lay w → Calls Tryd.prog 15 #[.int .i64 x, .int .i64 y] w fun e w' => e = .returned (moneyV (addB x y)) ∧ Below w.heap.size w w') := fun w h => impl_add x y w h
  have HS : Hid (∀ w, Calls Tryd.prog 16 #[.int .i64 x, .int .i64 y] w fun e w' => e = .returned (moneyV (addB x y)) ∧ Below w.heap.size w w') := fun w => spec_add x y w
  obtain ⟨n, c, hR⟩ : ∃ n c, addB x y = (n, c) := ⟨_, _, rfl⟩
  simp only [hR, moneyV] at HI HS
  have HR : Hid (addB x y = (n, c)) := hR
  clear hR
  go_wp2_with fail
  refine (HI.out _ (by exact HL.out.below hb1)).mono ?_
  rintro e w2 ⟨rfl, hb2⟩
  have HB2 : Hid (Below w.heap.size w (w2.alloc (.cells #[.int .i64 n, .int .i64 c] 26))) := (hb1.trans (hb2.mono hb1.size)).alloc (by have := hb1.size; have := hb2.size; omega) _
  clear hb1 hb2 HI
  go_upto_region 5 with fail
  go_cut [40] (fun s wx => s = .bool false ∧ wx.cell? ⟨w2.heap.size, 0, none⟩ = some (.int .i64 n) ∧ wx.cell? ⟨w2.heap.size, 1, none⟩ = some (.int .i64 c) ∧ w2.heap.size < wx.heap.size ∧ Below w.heap.size w wx)
  case first =>
    generalize hrb : rightB x = rb
    have HIR : Hid (∀ w, Calls Tryd.prog 17 #[.int .i64 x] w fun e w' => e = .returned (.bool rb) ∧ w' = w) := fun w => by rw [← hrb]; exact impl_right x w
    have HSR : Hid (∀ w, Calls Tryd.prog 18 #[.int .i64 x] w fun e w' => e = .returned (.bool rb) ∧ w' = w) := fun w => by rw [← hrb]; exact spec_right x w
    clear hrb
    have e0 : (rb != rb) = false := by simp
    go_region_with (first
      | (go_at_call 16; refine (HS.out _).mono ?_; rintro e w3 ⟨rfl, hb3⟩; obtain ⟨hc3, hf3⟩ := bcell hb3)
      | (go_at_call 17; refine (HIR.out _).mono ?_; rintro e w4 ⟨rfl, rfl⟩)
      | (go_at_call 18; refine (HSR.out _).mono ?_; rintro e w4 ⟨rfl, rfl⟩))
    all_goals go_wp2_with fail
    all_goals go_meet
    all_goals refine ⟨rfl, ?_, ?_, ?_, ?_⟩
    all_goals first
      | (rw [hb3.cell (by simp)]; simp; done)
      | (have := hb3.size; simp at this; omega)
      | exact HB2.out.drew.trans (hb3.mono (by have := HB2.out.size; simpa using this))
  case rest =>
  obtain ⟨rfl, X0, X1, s2, hb3⟩ := hcut
  have HB3 : Hid (Below w.heap.size w wc) := hb3
  clear hb3 HS HB2
  go_upto_region 7 with fail
  go_cut [61] (fun s wx => s = .bool false ∧ Below w.heap.size w wx)
  case first =>
    by_cases cz : c = 0
    · subst cz
      obtain ⟨q1, q2, q3, q4⟩ := addB_back x y (by rw [HR.out])
      rw [HR.out] at q1
      have q1' : n = x + y := q1
      by_cases yz : y = 0
      · have u1 : (y == 0) = true := by rw [beq_iff_eq]; exact yz
        have u2 : (y != 0) = false := by simp [yz]
        clear yz q1 q2 q1'
        go_wp2_with fail
        go_meet
        exact ⟨rfl, HB3.out⟩
      · have u1 : (y == 0) = false := beq_eq_false_iff_ne.2 yz
        have HM : Hid (∀ w, Lay w → Calls Tryd.prog 15 #[.int .i64 n, .int .i64 (-y)] w fun e w' => e = .returned (.agg #[.int .i64 x, .int .i64 0]) ∧ Below w.heap.size w w') := fun w h => by
          have h1 := impl_add n (-y) w h
          rw [q1', q2] at h1
          rw [q1']
          exact h1
        have hfd : ∀ W : World, (Instr.field 26 (.agg #[.int .i64 x, .int .i64 0]) 0).run Tryd.prog W = .ok (.int .i64 x) W := fun _ => by kernel_rfl
        have e0 : (x != x) = false := by simp
        clear yz q1 q2 q1'
        go_wp2_with fail
        refine (HM.out _ (by exact HL.out.below HB3.out)).mono ?_
        rintro e w5 ⟨rfl, hb5⟩
        go_wp2_with fail
        go_meet
        exact ⟨rfl, HB3.out.trans (hb5.mono HB3.out.size)⟩
    · have u1 : (c == 0) = false := beq_eq_false_iff_ne.2 cz
      clear cz
      go_wp2_with fail
      go_meet
      exact ⟨rfl, HB3.out⟩
  case rest =>
  obtain ⟨rfl, hb5⟩ := hcut
  have HB5 : Hid (Below w.heap.size w wc) := hb5
  clear hb5 X0 X1 s2 HB3 HR
  go_upto_region 9 with fail
  go_cut [71] (fun s wx => s = .bool false ∧ Below w.heap.size w wx)
  case first =>
    cases hrb : rightB x
    · have HSR : Hid (∀ w, Calls Tryd.prog 18 #[.int .i64 x] w fun e w' => e = .returned (.bool false) ∧ w' = w) := fun w => by rw [← hrb]; exact spec_right x w
      clear hrb
      go_wp2_with fail
      refine (HSR.out _).mono ?_
      rintro e w6 ⟨rfl, rfl⟩
      go_wp2_with fail
      go_meet
      exact ⟨rfl, HB5.out⟩
    · have HSR : Hid (∀ w, Calls Tryd.prog 18 #[.int .i64 x] w fun e w' => e = .returned (.bool true) ∧ w' = w) := fun w => by rw [← hrb]; exact spec_right x w
      have hxr := (rightB_iff x).1 hrb
      have HMT : Hid (∀ w, Tab w → Calls Tryd.prog 20 #[.int .i64 x] w fun e w' => e = .returned (.string (strB (moneyT x))) ∧ Below w.heap.size w w') := fun w h => impl_moneyText x w h
      have HMR : Hid (∀ w, Tab w → Lay w → Calls Tryd.prog 19 #[.string (strB (moneyT x))] w fun e w' => e = .returned (.agg #[.int .i64 x, .int .i64 0]) ∧ Below w.heap.size w w') := fun w h h' => by
        have h1 := impl_moneyRead (strB (moneyT x)) w (by rw [strB_size]; have := moneyT_len x; unfold maxLen; omega) h h'
        rw [bytesOf_strB, readM_money x hxr] at h1
        exact h1
      generalize strB (moneyT x) = E at *
      clear hrb hxr
      go_wp2_with fail
      refine (HSR.out _).mono ?_
      rintro e w6 ⟨rfl, rfl⟩
      go_wp2_with fail
      refine (HMT.out _ (by exact HT.out.below HB5.out)).mono ?_
      rintro e w6 ⟨rfl, hb6⟩
      have HB6 : Hid (Below w.heap.size w w6) := HB5.out.trans (hb6.mono HB5.out.size)
      clear hb6
      go_wp2_with fail
      refine (HMR.out _ (by exact HT.out.below HB6.out) (by exact HL.out.below HB6.out)).mono ?_
      rintro e w7 ⟨rfl, hb7⟩
      have HB7 : Hid (Below w.heap.size w w7) := HB6.out.trans (hb7.mono HB6.out.size)
      clear hb7
      go_wp2_with fail
      go_meet
      exact ⟨rfl, HB7.out⟩
  case rest =>
  obtain ⟨rfl, hb7⟩ := hcut
  have HB7 : Hid (Below w.heap.size w wc) := hb7
  clear hb7 HB5
  go_wp2_with fail
  refine (Draw.draw_rateText HW.out (by omega) _ (by exact HB7.out)).mono ?_
  rintro e w8 ⟨r, rfl, hb8⟩
  have HB8 : Hid (Below w.heap.size w w8) := HB7.out.trans (hb8.mono HB7.out.size)
  clear hb8 HB7
  go_upto_region 12 with fail
  go_cut [84] (fun s wx => s = .bool false ∧ Below w.heap.size w wx)
  case first =>
    have HS : Hid (∀ w, Calls Tryd.prog 22 #[.int .i64 r] w fun e w' => e = .returned (.string (strB (rateT r))) ∧ Below w.heap.size w w') := fun w => spec_rateText r w
    by_cases hE : strB (rateT r) = { data := #[] }
    · rw [hE] at HS
      clear hE
      go_wp2_with fail
      refine (HS.out _).mono ?_
      rintro e w9 ⟨rfl, hb9⟩
      have HB9 : Hid (Below w.heap.size w w9) := HB8.out.trans (hb9.mono HB8.out.size)
      clear hb9
      go_wp2_with fail
      go_meet
      exact ⟨rfl, HB9.out⟩
    · have hrr := rateT_nil r hE
      have hn := neq_str hE
      have hn' := neq_nil hE
      have HMT : Hid (∀ w, Tab w → Calls Tryd.prog 24 #[.int .i64 r] w fun e w' => e = .returned (.string (strB (rateT r))) ∧ Below w.heap.size w w') := fun w h => impl_rateText r w h
      have HMR : Hid (∀ w, Tab w → Lay w → Calls Tryd.prog 23 #[.string (strB (rateT r))] w fun e w' => e = .returned (.agg #[.int .i64 r, .int .i64 0]) ∧ Below w.heap.size w w') := fun w h h' => by
        have h1 := impl_rateRead (strB (rateT r)) w (by rw [strB_size]; have := rateT_len r; unfold maxLen; omega) h h'
        rw [bytesOf_strB, readR_rate r hrr] at h1
        exact h1
      generalize strB (rateT r) = E at *
      clear hE hrr
      go_wp2_with fail
      refine (HS.out _).mono ?_
      rintro e w9 ⟨rfl, hb9⟩
      have HB9 : Hid (Below w.heap.size w w9) := HB8.out.trans (hb9.mono HB8.out.size)
      clear hb9
      go_wp2_with fail
      refine (HMT.out _ (by exact HT.out.below HB9.out)).mono ?_
      rintro e w10 ⟨rfl, hb10⟩
      have HB10 : Hid (Below w.heap.size w w10) := HB9.out.trans (hb10.mono HB9.out.size)
      clear hb10
      go_wp2_with fail
      refine (HMR.out _ (by exact HT.out.below HB10.out) (by exact HL.out.below HB10.out)).mono ?_
      rintro e w11 ⟨rfl, hb11⟩
      have HB11 : Hid (Below w.heap.size w w11) := HB10.out.trans (hb11.mono HB10.out.size)
      clear hb11
      go_wp2_with fail
      go_meet
      exact ⟨rfl, HB11.out⟩
  case rest =>
  obtain ⟨rfl, hb11⟩ := hcut
  have HB11 : Hid (Below w.heap.size w wc) := hb11
  clear hb11 HB8
  go_wp2_with fail
  refine (Draw.draw_moneyRead HW'.out (by omega) _ (by exact HB11.out)).mono ?_
  rintro e w12 ⟨t, rfl, ht, hb12⟩
  have HB12 : Hid (Below w.heap.size w w12) := HB11.out.trans (hb12.mono HB11.out.size)
  clear hb12 HB11
  go_wp2_with fail
  refine (Draw.draw_rateRead HW'.out (by omega) _ (by exact HB12.out)).mono ?_
  rintro e w13 ⟨u, rfl, hu, hb13⟩
  have HB13 : Hid (Below w.heap.size w w13) := HB12.out.trans (hb13.mono HB12.out.size)
  clear hb13 HB12
  have H1 : Hid (∀ w, Tab w → Lay w → Calls Tryd.prog 19 #[.string t] w fun e w' => e = .returned (moneyV (readM (bytesOf t))) ∧ Below w.heap.size w w') := fun w h h' => impl_moneyRead t w (by unfold maxLen; omega) h h'
  have H2 : Hid (∀ w, Calls Tryd.prog 27 #[.string t] w fun e w' => e = .returned (moneyV (readM (bytesOf t))) ∧ Below w.heap.size w w') := fun w => spec_moneyRead t w (by unfold maxLen; omega)
  have H3 : Hid (∀ w, Tab w → Lay w → Calls Tryd.prog 23 #[.string u] w fun e w' => e = .returned (moneyV (readR (bytesOf u))) ∧ Below w.heap.size w w') := fun w h h' => impl_rateRead u w (by unfold maxLen; omega) h h'
  have H4 : Hid (∀ w, Calls Tryd.prog 28 #[.string u] w fun e w' => e = .returned (moneyV (readR (bytesOf u))) ∧ Below w.heap.size w w') := fun w => spec_rateRead u w (by unfold maxLen; omega)
  obtain ⟨ny, cy, hRy⟩ : ∃ ny cy, readM (bytesOf t) = (ny, cy) := ⟨_, _, rfl⟩
  obtain ⟨nz, cz, hRz⟩ : ∃ nz cz, readR (bytesOf u) = (nz, cz) := ⟨_, _, rfl⟩
  simp only [hRy, moneyV] at H1 H2
  simp only [hRz, moneyV] at H3 H4
  have HRy : Hid (cy = 0 → strB (moneyT ny) = t) := fun h => by
    have h1 := readM_text (bytesOf t) (by rw [hRy]; exact h)
    rw [hRy] at h1
    have h2 : moneyT ny = bytesOf t := h1
    rw [h2, strB_bytesOf]
  have HRz : Hid (cz = 0 → strB (rateT nz) = u) := fun h => by
    have h1 := readR_text (bytesOf u) (by rw [hRz]; exact h)
    rw [hRz] at h1
    have h2 : rateT nz = bytesOf u := h1
    rw [h2, strB_bytesOf]
  clear hRy hRz
  go_wp2_with fail
  refine (H1.out _ (by exact HT.out.below HB13.out) (by exact HL.out.below HB13.out)).mono ?_
  rintro e w14 ⟨rfl, hb14⟩
  have HB14 : Hid (Below w.heap.size w (w14.alloc (.cells #[.int .i64 ny, .int .i64 cy] 26))) := (HB13.out.trans (hb14.mono HB13.out.size)).alloc (by have := HB13.out.size; have := hb14.size; omega) _
  clear hb14 HB13 H1
  go_wp2_with fail
  refine (H3.out _ (by exact HT.out.below HB14.out) (by exact HL.out.below HB14.out)).mono ?_
  rintro e w15 ⟨rfl, hb15⟩
  have s14 : w14.heap.size < w15.heap.size := by have := hb15.size; simp at this; omega
  have Y0 : (w15.alloc (.cells #[.int .i64 nz, .int .i64 cz] 26)).cell? ⟨w14.heap.size, 0, none⟩ = some (.int .i64 ny) := by
    rw [World.cell?_alloc_past _ _ _ (by omega), hb15.cell (by simp)]; simp
  have Y1 : (w15.alloc (.cells #[.int .i64 nz, .int .i64 cz] 26)).cell? ⟨w14.heap.size, 1, none⟩ = some (.int .i64 cy) := by
    rw [World.cell?_alloc_past _ _ _ (by omega), hb15.cell (by simp)]; simp
  have HB15 : Hid (Below w.heap.size w (w15.alloc (.cells #[.int .i64 nz, .int .i64 cz] 26))) := (HB14.out.trans (hb15.mono HB14.out.size)).alloc (by have := HB14.out.size; have := hb15.size; omega) _
  clear hb15 HB14 H3
  go_upto_region 18 with fail
  go_cut [102] (fun s wx => s = .bool false ∧ wx.cell? ⟨w14.heap.size, 0, none⟩ = some (.int .i64 ny) ∧ wx.cell? ⟨w14.heap.size, 1, none⟩ = some (.int .i64 cy) ∧ wx.cell? ⟨w15.heap.size, 0, none⟩ = some (.int .i64 nz) ∧ wx.cell? ⟨w15.heap.size, 1, none⟩ = some (.int .i64 cz) ∧ w15.heap.size < wx.heap.size ∧ Below w.heap.size w wx)
  case first =>
    go_region_with (first
      | (go_at_call 27; refine (H2.out _).mono ?_; rintro e w16 ⟨rfl, hb16⟩; have s15 : w15.heap.size < w16.heap.size := (by have := hb16.size; simp at this; omega); have A0 : w16.cell? ⟨w14.heap.size, 0, none⟩ = some (.int .i64 ny) := (by rw [hb16.cell (by simp; omega)]; simpa using Y0); have A1 : w16.cell? ⟨w14.heap.size, 1, none⟩ = some (.int .i64 cy) := (by rw [hb16.cell (by simp; omega)]; simpa using Y1); have B0 : w16.cell? ⟨w15.heap.size, 0, none⟩ = some (.int .i64 nz) := (by rw [hb16.cell (by simp)]; simp); have B1 : w16.cell? ⟨w15.heap.size, 1, none⟩ = some (.int .i64 cz) := (by rw [hb16.cell (by simp)]; simp))
      | (go_at_call 28; refine (H4.out _).mono ?_; rintro e w17 ⟨rfl, hb17⟩; have C0 : w17.cell? ⟨w14.heap.size, 0, none⟩ = some (.int .i64 ny) := (by rw [hb17.cell (by simp; omega)]; simpa using A0); have C1 : w17.cell? ⟨w14.heap.size, 1, none⟩ = some (.int .i64 cy) := (by rw [hb17.cell (by simp; omega)]; simpa using A1); have D0 : w17.cell? ⟨w15.heap.size, 0, none⟩ = some (.int .i64 nz) := (by rw [hb17.cell (by simp; omega)]; simpa using B0); have D1 : w17.cell? ⟨w15.heap.size, 1, none⟩ = some (.int .i64 cz) := (by rw [hb17.cell (by simp; omega)]; simpa using B1)))
    all_goals go_wp2_with fail
    all_goals go_meet
    all_goals refine ⟨rfl, C0, C1, D0, D1, ?_, ?_⟩
    all_goals have h17 : w16.heap.size ≤ w17.heap.size := hb17.size
    all_goals first
      | exact Nat.lt_of_lt_of_le s15 h17
      | skip
    all_goals
      have k16 : Below w.heap.size w w16 := by
        refine Below.trans ?_ (hb16.mono (by have := HB15.out.size; simpa using this))
        repeat (first | exact HB15.out | refine Below.drew ?_)
      have k17 : Below w.heap.size w w17 := by
        refine Below.trans ?_ (hb17.mono (by have := k16.size; simpa using this))
        repeat (first | exact k16 | refine Below.drew ?_)
      repeat (first | exact k17 | refine Below.drew ?_)
  case rest =>
  obtain ⟨rfl, Y0, Y1, Z0, Z1, s17, hb17⟩ := hcut
  have HB17 : Hid (Below w.heap.size w wc) := hb17
  clear hb17 HB15 H2 H4
  by_cases kz : cz = 0
  · have hEz := HRz.out kz
    subst kz
    have HZT : Hid (∀ w, Tab w → Calls Tryd.prog 24 #[.int .i64 nz] w fun e w' => e = .returned (.string u) ∧ Below w.heap.size w w') := fun w h => by
      have h1 := impl_rateText nz w h
      rw [hEz] at h1
      exact h1
    clear hEz HRz
    by_cases ky : cy = 0
    · have hEy := HRy.out ky
      subst ky
      have HYT : Hid (∀ w, Tab w → Calls Tryd.prog 20 #[.int .i64 ny] w fun e w' => e = .returned (.string t) ∧ Below w.heap.size w w') := fun w h => by
        have h1 := impl_moneyText ny w h
        rw [hEy] at h1
        exact h1
      clear hEy HRy
      go_wp2_with fail
      refine (HYT.out _ (by exact HT.out.below HB17.out)).mono ?_
      rintro e w18 ⟨rfl, hb18⟩
      have Z0' : w18.cell? ⟨w15.heap.size, 0, none⟩ = some (.int .i64 nz) := by rw [hb18.cell s17]; exact Z0
      have Z1' : w18.cell? ⟨w15.heap.size, 1, none⟩ = some (.int .i64 0) := by rw [hb18.cell s17]; exact Z1
      have HB18 : Hid (Below w.heap.size w w18) := HB17.out.trans (hb18.mono HB17.out.size)
      clear hb18
      go_wp2_with fail
      refine (HZT.out _ (by exact HT.out.below HB18.out)).mono ?_
      rintro e w19 ⟨rfl, hb19⟩
      have HB19 : Hid (Below w.heap.size w w19) := HB18.out.trans (hb19.mono HB18.out.size)
      clear hb19
      go_wp2_with fail
      go_ret
      exact ⟨rfl, HB19.out⟩
    · have ty : (cy != 0) = true := by rw [bne_iff_ne]; exact ky
      clear ky
      go_wp2_with fail
      refine (HZT.out _ (by exact HT.out.below HB17.out)).mono ?_
      rintro e w19 ⟨rfl, hb19⟩
      have HB19 : Hid (Below w.heap.size w w19) := HB17.out.trans (hb19.mono HB17.out.size)
      clear hb19
      go_wp2_with fail
      go_ret
      exact ⟨rfl, HB19.out⟩
  · have tz : (cz != 0) = true := by rw [bne_iff_ne]; exact kz
    clear kz HRz
    by_cases ky : cy = 0
    · have hEy := HRy.out ky
      subst ky
      have HYT : Hid (∀ w, Tab w → Calls Tryd.prog 20 #[.int .i64 ny] w fun e w' => e = .returned (.string t) ∧ Below w.heap.size w w') := fun w h => by
        have h1 := impl_moneyText ny w h
        rw [hEy] at h1
        exact h1
      clear hEy HRy
      go_wp2_with fail
      refine (HYT.out _ (by exact HT.out.below HB17.out)).mono ?_
      rintro e w18 ⟨rfl, hb18⟩
      have Z1' : w18.cell? ⟨w15.heap.size, 1, none⟩ = some (.int .i64 cz) := by rw [hb18.cell s17]; exact Z1
      have HB18 : Hid (Below w.heap.size w w18) := HB17.out.trans (hb18.mono HB17.out.size)
      clear hb18
      go_wp2_with fail
      go_ret
      exact ⟨rfl, HB18.out⟩
    · have ty : (cy != 0) = true := by rw [bne_iff_ne]; exact ky
      clear ky
      go_wp2_with fail
      go_ret
      exact ⟨rfl, HB17.out⟩
end Go.Proofs.YtgbkpifkmkjbaaaDoor
