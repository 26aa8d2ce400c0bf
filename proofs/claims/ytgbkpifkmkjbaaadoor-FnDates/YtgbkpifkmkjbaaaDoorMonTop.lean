/- The law FnMonths: what its call does. -/
import Derived.Test.YtgbkpifkmkjbaaaDoorDrawD
import Derived.Test.YtgbkpifkmkjbaaaDoorDayFacts
import Derived.Test.YtgbkpifkmkjbaaaDoorDayAdd
import Derived.Test.YtgbkpifkmkjbaaaDoorDayAddI
import Derived.Deep.DeepCutAuto
namespace Go.Proofs.YtgbkpifkmkjbaaaDoor
open Go.RowKit

theorem keep {W w1 : World} (hb : Below W.heap.size W w1) {g : Nat} {cs : Array Value} (hg : g < W.heap.size) (h : ∀ j, W.cell? ⟨g, j, none⟩ = cs[j]?) : ∀ j, w1.cell? ⟨g, j, none⟩ = cs[j]? := fun j => (hb.cell (p := ⟨g, j, none⟩) hg).trans (h j)
theorem new_cells {w1 w2 : World} {cs : Array Value} {t : TypeId} (hb : Below (w1.alloc (.cells cs t)).heap.size (w1.alloc (.cells cs t)) w2) : ∀ j, w2.cell? ⟨w1.heap.size, j, none⟩ = cs[j]? := fun j =>
  (hb.cell (p := ⟨w1.heap.size, j, none⟩) (by simp)).trans (World.cell?_alloc_new _ _ _ _)
theorem past_cells {w1 : World} {o : Obj} {g : Nat} {cs : Array Value} (hg : g < w1.heap.size) (h : ∀ j, w1.cell? ⟨g, j, none⟩ = cs[j]?) : ∀ j, (w1.alloc o).cell? ⟨g, j, none⟩ = cs[j]? := fun j => by rw [World.cell?_alloc_past _ _ _ hg]; exact h j
theorem drew_new {w1 w2 : World} {cs : Array Value} {t : TypeId} (hb : Below (w1.alloc (.cells cs t)).drew.heap.size (w1.alloc (.cells cs t)).drew w2) : w1.heap.size < w2.heap.size ∧ ∀ j, w2.cell? ⟨w1.heap.size, j, none⟩ = cs[j]? := by
  have hb' : Below (w1.alloc (.cells cs t)).heap.size (w1.alloc (.cells cs t)) w2 := ⟨hb.os, hb.tape, hb.output, hb.size, hb.block⟩
  exact ⟨by have h := hb'.size; simp at h; omega, new_cells hb'⟩
theorem drew_keep {w1 w2 : World} {o : Obj} {g : Nat} {cs : Array Value} (hb : Below (w1.alloc o).drew.heap.size (w1.alloc o).drew w2) (hg : g < w1.heap.size) (h : ∀ j, w1.cell? ⟨g, j, none⟩ = cs[j]?) : ∀ j, w2.cell? ⟨g, j, none⟩ = cs[j]? := fun j => by
  rw [hb.cell (p := ⟨g, j, none⟩) (by show g < (w1.alloc o).heap.size; simp; omega)]
  show (w1.alloc o).cell? _ = _
  rw [World.cell?_alloc_past _ _ _ hg]; exact h j

set_option maxRecDepth 100000 in
set_option maxHeartbeats 8000000 in
theorem law_months (a : Option Addr) (len cap : Nat) (zs : List Int) (w : World) (hM : Mon w) (hL : Lay w) (hrow : Draw.IsRow .u8 w a len cap zs) :
    Calls Tryd.prog 6 #[.slice a len cap] w fun e w' => e = .returned (.bool true) ∧ Below w.heap.size w w' := by
  have hlm : len ≤ 9223372036854775807 := by
    rcases hrow with ⟨_, rfl, _⟩ | ⟨x, rfl, hl, hm, _⟩
    · omega
    · unfold maxLen at hm; omega
  have HL : Hid (Lay w) := hL
  have HM : Hid (Mon w) := hM
  clear hL hM
  by_cases hbig : 1048576 < (len : Int)
  · go_enter Tryd.func6, Tryd.ntmps6
    go_wp2_with fail
    go_ret
    exact ⟨rfl, Below.refl _ _⟩
  go_enter Tryd.func6, Tryd.ntmps6
  go_wp2_with fail
  refine (Draw.draw_dayAdd hrow (by omega) w (Below.refl _ _)).mono ?_
  rintro e w1 ⟨day, n, rfl, ⟨x0, x1⟩, ⟨y0, y1⟩, hb1⟩
  have HI : Hid (∀ w, Mon w → Lay w → Calls Tryd.prog 41 #[.int .i64 day, .int .i64 n] w fun e w' => e = .returned (moneyV (dayAddB day n)) ∧ Below w.heap.size w w') := fun w hM hL => impl_dayAdd day n w hM hL
  have HS : Hid (∀ w, Calls Tryd.prog 42 #[.int .i64 day, .int .i64 n] w fun e w' => e = .returned (moneyV (dayAddB day n)) ∧ Below w.heap.size w w') := fun w => spec_dayAdd day n w
  obtain ⟨N, c, hR⟩ : ∃ N c, dayAddB day n = (N, c) := ⟨_, _, rfl⟩
  simp only [hR, moneyV] at HI HS
  have HR : Hid (dayAddB day n = (N, c)) := hR
  have HB1 : Hid (Below w.heap.size w w1) := hb1
  clear hR hb1 hrow
  go_wp2_with fail
  refine (HI.out _ (by exact HM.out.below HB1.out) (by exact HL.out.below HB1.out)).mono ?_
  rintro e w2 ⟨rfl, hb2⟩
  have HB2 : Hid (Below w.heap.size w w2) := HB1.out.trans (hb2.mono HB1.out.size)
  clear hb2
  go_upto_region 5 with fail
  go_cut [25] (fun s wx => s = .bool false ∧ (∀ j, wx.cell? ⟨w2.heap.size, j, none⟩ = (#[Value.int .i64 N, .int .i64 c] : Array Value)[j]?) ∧ w2.heap.size < wx.heap.size ∧ Hid (Below w.heap.size w wx))
  case first =>
    go_region_with (go_at_call 42; refine (HS.out _).mono ?_; rintro e w3 ⟨rfl, hb3⟩; obtain ⟨z3, X3⟩ := drew_new hb3)
    all_goals
      have HB3 : Hid (Below w.heap.size w w3) := ((HB2.out.alloc HB2.out.size _).drew).trans (hb3.mono (by have := HB2.out.size; simp; omega))
      clear hb3
      go_wp2_with fail
      go_meet
      exact ⟨by simp, X3, z3, HB3⟩
  case rest =>
  obtain ⟨rfl, X, z2, HBc⟩ := hcut
  clear HB2 HS HI
  by_cases cz : c = 0
  case neg =>
    have t2 : (c != 0) = true := by rw [bne_iff_ne]; exact cz
    go_wp2_with fail
    go_ret
    exact ⟨rfl, HBc.out⟩
  subst cz
  obtain ⟨hr, n0, n1, _, _, hJ⟩ := dayAdd_parts HR.out
  have hNr := hJ.range
  obtain ⟨E1, E2⟩ := month_facts HR.out
  obtain ⟨d0, d1⟩ := (dayRB_iff day).1 hr
  have A := dateB_is d0 d1
  have B := dateB_is hNr.1 hNr.2
  have HD : Hid (∀ w, Mon w → Calls Tryd.prog 33 #[.int .i64 day] w fun e w' => e = .returned (dateV (dateB day)) ∧ Below w.heap.size w w') := fun w h => by
    have := impl_dateOf day w h
    rw [dateOfB, if_pos hr] at this
    exact this
  have HE : Hid (∀ w, Mon w → Calls Tryd.prog 33 #[.int .i64 N] w fun e w' => e = .returned (dateV (dateB N)) ∧ Below w.heap.size w w') := fun w h => by
    have := impl_dateOf N w h
    rw [dateOfB, if_pos ((dayRB_iff N).2 hNr)] at this
    exact this
  have HF : Hid (∀ w, Mon w → Calls Tryd.prog 33 #[.int .i64 (N + 1)] w fun e w' => e = .returned (dateV (dateOfB (N + 1))) ∧ Below w.heap.size w w') := fun w h => impl_dateOf (N + 1) w h
  obtain ⟨N0, N1⟩ := hNr
  generalize dateB day = D at *
  generalize dateB N = E at *
  generalize dateOfB (N + 1) = F at *
  obtain ⟨y, m, d⟩ := D
  obtain ⟨ye, me, de⟩ := E
  obtain ⟨yf, mf, df⟩ := F
  simp only [dateV] at HD HE HF E1 E2 A B
  have a0 := A.y0
  have a1 := A.y1
  have a2 := A.m0
  have a3 := A.m1
  have b0 := B.y0
  have b1 := B.y1
  have b2 := B.m0
  have b3 := B.m1
  have u1 : (12 * ye + me != 12 * y + m + n) = false := by simp; omega
  have HE2 : Hid (de = d ∨ (de < d ∧ mf ≠ me)) := E2
  clear A B E1 E2 hr d0 d1 hJ
  go_wp2_with fail
  refine (HD.out _ (by exact HM.out.below HBc.out)).mono ?_
  rintro e w4 ⟨rfl, hb4⟩
  have z4 : w2.heap.size < w4.heap.size := by have := hb4.size; omega
  have X4 := keep hb4 z2 X
  have HB4 : Hid (Below w.heap.size w w4) := HBc.out.trans (hb4.mono HBc.out.size)
  clear hb4 X
  have X4' := fun o => past_cells (o := o) z4 X4
  go_wp2_with fail
  refine (HE.out _ (by exact HM.out.below (HB4.out.alloc HB4.out.size _))).mono ?_
  rintro e w5 ⟨rfl, hb5⟩
  have z5 : w4.heap.size < w5.heap.size := by have := hb5.size; simp at this; omega
  have z25 : w2.heap.size < w5.heap.size := by omega
  have D5 := new_cells hb5
  have X5 := keep hb5 (by simp; omega) (X4' _)
  have HB5 : Hid (Below w.heap.size w w5) := (HB4.out.alloc HB4.out.size _).trans (hb5.mono (by have := HB4.out.size; simp; omega))
  clear hb5 X4 X4'
  have X5' := fun o => past_cells (o := o) z25 X5
  have D5' := fun o => past_cells (o := o) z5 D5
  go_upto_region 11 with fail
  go_cut [8] (fun s wx => s = .bool (mf != me) ∧ (∀ j, wx.cell? ⟨w2.heap.size, j, none⟩ = (#[Value.int .i64 N, .int .i64 0] : Array Value)[j]?) ∧ (∀ j, wx.cell? ⟨w4.heap.size, j, none⟩ = (#[Value.int .i64 y, .int .i64 m, .int .i64 d] : Array Value)[j]?) ∧ (∀ j, wx.cell? ⟨w5.heap.size, j, none⟩ = (#[Value.int .i64 ye, .int .i64 me, .int .i64 de] : Array Value)[j]?) ∧ w5.heap.size < wx.heap.size ∧ Hid (Below w.heap.size w wx))
  case first =>
    have wN : IntKind.i64.wrap (N + 1) = N + 1 := IntWalk.i64_in _ (by omega)
    have fld : ∀ w, (Instr.field 39 (.agg #[.int .i64 yf, .int .i64 mf, .int .i64 df]) 1).run Tryd.prog w = .ok (.int .i64 mf) w := fun w => by kernel_rfl
    go_region_with (go_at_call 33; refine (HF.out _ (by exact (HM.out.below (HB5.out.alloc HB5.out.size _)).drewN 1)).mono ?_; rintro e w6 ⟨rfl, hb6⟩; obtain ⟨z6, E6⟩ := drew_new hb6)
    all_goals
      have X6 := drew_keep hb6 z25 X5
      have D6 := drew_keep hb6 z5 D5
      have HB6 : Hid (Below w.heap.size w w6) := ((HB5.out.alloc HB5.out.size _).drew).trans (hb6.mono (by have := HB5.out.size; simp; omega))
      clear hb6
      go_wp2_with fail
      go_meet
      exact ⟨rfl, X6, D6, E6, z6, HB6⟩
  case rest =>
  obtain ⟨rfl, X7, D7, E7, z7, HB7⟩ := hcut
  clear HB5 HD HE HF X5 D5 X5' D5' HB4 HBc
  obtain ⟨b, hb⟩ : ∃ b, (mf != me) = b := ⟨_, rfl⟩
  have HBv : Hid ((mf != me) = b) := hb
  rw [hb]
  clear hb
  have Z7 : Hid (w5.heap.size < wc.heap.size) := z7
  by_cases c1 : n = 1200
  · have t1 : (n == 1200) = true := by rw [beq_iff_eq]; exact c1
    by_cases c2 : de = d
    · have t2 : (de != d) = false := by simp [c2]
      clear c1 c2
      go_wp2_with fail
      go_ret
      exact ⟨rfl, HB7.out⟩
    · have t2 : (de != d) = true := by rw [bne_iff_ne]; exact c2
      have t3 : decide (d < de) = false := by rcases HE2.out with h | h <;> simp <;> omega
      have hbt : b = true := by
        rcases HE2.out with h | h
        · exact absurd h c2
        · rw [← HBv.out, bne_iff_ne]; exact h.2
      subst hbt
      clear c1 c2
      go_wp2_with fail
      go_ret
      exact ⟨rfl, HB7.out⟩
  have t1 : (n == 1200) = false := beq_eq_false_iff_ne.2 c1
  obtain ⟨N', c', hR'⟩ : ∃ N' c', dayAddB day (n + 1) = (N', c') := ⟨_, _, rfl⟩
  have HZ : Hid (∀ w, Mon w → Lay w → Calls Tryd.prog 41 #[.int .i64 day, .int .i64 (n + 1)] w fun e w' => e = .returned (.agg #[.int .i64 N', .int .i64 c']) ∧ Below w.heap.size w w') := fun w hM hL => by
    have h1 := impl_dayAdd day (n + 1) w hM hL
    rw [hR'] at h1
    exact h1
  have HMo : Hid (c' = 0 → N < N') := by
    intro h
    subst h
    exact month_later HR.out hR'
  have hz27 : w2.heap.size < wc.heap.size := by omega
  clear hR' HR
  by_cases c2 : de = d
  · have t2 : (de != d) = false := by simp [c2]
    clear c1 c2
    go_wp2_with fail
    refine (HZ.out _ (by exact HM.out.below HB7.out) (by exact HL.out.below HB7.out)).mono ?_
    rintro e w8 ⟨rfl, hb8⟩
    have z8 : w2.heap.size < w8.heap.size := by have := hb8.size; omega
    have X8 := keep hb8 hz27 X7
    have X8' := fun o => past_cells (o := o) z8 X8
    have HB8 : Hid (Below w.heap.size w w8) := HB7.out.trans (hb8.mono HB7.out.size)
    clear hb8 X7 D7 E7 X8
    by_cases cz : c' = 0
    · subst cz
      have hlt := HMo.out rfl
      have tz : decide (N < N') = true := by simp; omega
      go_wp2_with fail
      go_ret
      exact ⟨rfl, HB8.out.alloc HB8.out.size _⟩
    · have tz : (c' != 0) = true := by rw [bne_iff_ne]; exact cz
      go_wp2_with fail
      go_ret
      exact ⟨rfl, HB8.out.alloc HB8.out.size _⟩
  · have t2 : (de != d) = true := by rw [bne_iff_ne]; exact c2
    have t3 : decide (d < de) = false := by rcases HE2.out with h | h <;> simp <;> omega
    have hbt : b = true := by
      rcases HE2.out with h | h
      · exact absurd h c2
      · rw [← HBv.out, bne_iff_ne]; exact h.2
    subst hbt
    clear c1 c2
    go_wp2_with fail
    refine (HZ.out _ (by exact HM.out.below HB7.out) (by exact HL.out.below HB7.out)).mono ?_
    rintro e w8 ⟨rfl, hb8⟩
    have z8 : w2.heap.size < w8.heap.size := by have := hb8.size; omega
    have X8 := keep hb8 hz27 X7
    have X8' := fun o => past_cells (o := o) z8 X8
    have HB8 : Hid (Below w.heap.size w w8) := HB7.out.trans (hb8.mono HB7.out.size)
    clear hb8 X7 D7 E7 X8
    by_cases cz : c' = 0
    · subst cz
      have hlt := HMo.out rfl
      have tz : decide (N < N') = true := by simp; omega
      go_wp2_with fail
      go_ret
      exact ⟨rfl, HB8.out.alloc HB8.out.size _⟩
    · have tz : (c' != 0) = true := by rw [bne_iff_ne]; exact cz
      go_wp2_with fail
      go_ret
      exact ⟨rfl, HB8.out.alloc HB8.out.size _⟩
end Go.Proofs.YtgbkpifkmkjbaaaDoor
