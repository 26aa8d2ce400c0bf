/- A calendar's day of a Date and Date of a day (the program's side): what each call does. -/
import Derived.Test.YtnefcldjigndgaaGreatDoorDateI
namespace Go.Proofs.YtnefcldjigndgaaGreatDoor
open Go.RowKit

theorem Cal.mono {w : World} {b n n' : Nat} (h : Cal w b n) (hn : n ≤ n') : Cal w b n' := by obtain ⟨D, h, r⟩ := h; exact ⟨D, h.mono hn, r⟩

theorem grown_set {w w' : World} {row : Option Nat} (h : w.grownBy w' row) {a : Addr} (ha : w.heap.size ≤ a.block) (u : Value) : w.grownBy (w'.setCell a u) row :=
  ⟨h.os, h.tape, h.output, by simpa [World.setCell] using h.size, fun k hk hne => by rw [Below.heap_setCell _ _ _ _ (by omega)]; exact h.block k hk hne⟩
theorem grown_drewN {w w' : World} {row : Option Nat} (h : w.grownBy w' row) (n : Nat) : w.grownBy (w'.drewN n) row := ⟨h.os, h.tape, h.output, h.size, h.block⟩
theorem Mon.setNew {w : World} (h : Mon w) {a : Addr} (ha : 2 ≠ a.block) (u : Value) : Mon (w.setCell a u) := fun k hk => by
  rw [World.cell?_of_block (Below.heap_setCell w a u _ ha)]; exact h k hk

set_option maxRecDepth 100000 in
set_option maxHeartbeats 4000000 in
theorem impl_day (y m d : Int) (b n : Nat) (hn : n < 1000) (w : World) (hC : Cal w b n) (hM : Mon w) (hG : 2 ≠ b) :
    Calls Tryz.prog 58 #[.map (some b), .agg #[.int .i64 y, .int .i64 m, .int .i64 d]] w fun e w' => e = .returned (tupV (dayOfB y m d)) ∧ Cal w' b (n + 1) ∧ w.grownBy w' (some b) := by
  have hlt := hC.lt
  have HC : Hid (Cal w b n) := hC
  have HM : Hid (Mon w) := hM
  clear hC hM
  cases hr : dateRB y m d
  · have HR : Hid (dayOfB y m d = (0, 1)) := by simp [Hid, dayOfB, hr]
    have H1 : Hid (∀ w, Mon w → Calls Tryz.prog 76 #[.agg #[.int .i64 y, .int .i64 m, .int .i64 d]] w fun e w' => e = .returned (.bool false) ∧ Below w.heap.size w w') := fun w h => by
      have := impl_dateRight y m d w h
      rw [hr] at this
      exact this
    clear hr
    go_enter Tryz.func58, Tryz.ntmps58
    go_wp2_with fail
    refine (H1.out _ (by exact HM.out.alloc _)).mono ?_
    rintro e w1 ⟨rfl, hb1⟩
    have HB1 : Hid (Below (w.alloc (.cells #[.int .i64 y, .int .i64 m, .int .i64 d] 53)).heap.size (w.alloc (.cells #[.int .i64 y, .int .i64 m, .int .i64 d] 53)) w1) := hb1
    clear hb1
    go_wp2_with fail
    go_ret2
    exact ⟨by rw [HR.out, tupV_err _ _ (by decide)]; rfl, ((HC.out.alloc _).under HB1.out).mono (Nat.le_succ _), gThen (World.grownBy_alloc w _ _) (grown_any HB1.out)⟩
  have HR : Hid (dayOfB y m d = (headI y + d - 1 + cumI y m, 0)) := by
    rw [Hid, dayOfB, if_pos hr, numB]
    exact congrArg (·, (0 : Int)) (by omega)
  have H1 : Hid (∀ w, Mon w → Calls Tryz.prog 76 #[.agg #[.int .i64 y, .int .i64 m, .int .i64 d]] w fun e w' => e = .returned (.bool true) ∧ Below w.heap.size w w') := fun w h => by
    have := impl_dateRight y m d w h
    rw [hr] at this
    exact this
  have hI := numB_is hr
  have y0 := hI.y0
  have y1 := hI.y1
  have m0 := hI.m0
  have m1 := hI.m1
  have d0 := hI.d0
  have d1 : d ≤ 31 := by have := hI.d1; have := len_le y m; omega
  clear hr hI
  obtain ⟨h0, h1⟩ := head_bounds (y := y) (by omega) (by omega)
  have H2 : Hid (∀ w, Cal w b n → Calls Tryz.prog 75 #[.map (some b), .int .i64 y] w fun e w' => e = .returned (.int .i64 (headI y)) ∧ Cal w' b (n + 1) ∧ w.grownBy w' (some b)) := fun w h => impl_first y y0 (by omega) b n hn w h
  have HBd : Hid (∀ k, 1 ≤ k → k ≤ 12 → 0 ≤ headI y + cumI y k ∧ headI y + cumI y k ≤ 40000) := fun k k0 k1 => num_bounds y0 y1 k0 (by omega)
  obtain ⟨h, hhe⟩ : ∃ h, headI y = h := ⟨_, rfl⟩
  rw [hhe] at H2 HR h0 h1 HBd
  clear hhe
  go_enter Tryz.func58, Tryz.ntmps58
  go_wp2_with fail
  refine (H1.out _ (by exact HM.out.alloc _)).mono ?_
  rintro e w1 ⟨rfl, hb1⟩
  have c0 : w1.cell? ⟨w.heap.size, 0, none⟩ = some (.int .i64 y) := by rw [hb1.cell (by simp)]; simp
  have c1 : w1.cell? ⟨w.heap.size, 1, none⟩ = some (.int .i64 m) := by rw [hb1.cell (by simp)]; simp
  have c2 : w1.cell? ⟨w.heap.size, 2, none⟩ = some (.int .i64 d) := by rw [hb1.cell (by simp)]; simp
  have HC1 : Hid (Cal w1 b n) := (HC.out.alloc _).under hb1
  have HM1 : Hid (Mon w1) := (HM.out.alloc _).below hb1
  have HG1 : Hid (w.grownBy w1 (some b)) := gThen (World.grownBy_alloc w _ _) (grown_any hb1)
  have hne : some w.heap.size ≠ some b := by simp; omega
  have HNE : Hid (some w.heap.size ≠ some b) := hne
  clear hb1 H1 hne
  go_wp2_with fail
  go_region_with (go_at_call 75; refine (H2.out _ (by exact HC1.out)).mono ?_; rintro e w2 ⟨rfl, hC2, hg2⟩; have e0 : w2.cell? ⟨w.heap.size, 0, none⟩ = some (.int .i64 y) := hg2.cell c0 HNE.out; have e1 : w2.cell? ⟨w.heap.size, 1, none⟩ = some (.int .i64 m) := hg2.cell c1 HNE.out; have e2 : w2.cell? ⟨w.heap.size, 2, none⟩ = some (.int .i64 d) := hg2.cell c2 HNE.out)
  all_goals
    have HM2 : Hid (Mon w2) := (show Mon w1.drew from HM1.out).grown hg2 hG
    have HC2 : Hid (Cal w2 b (n + 1)) := hC2
    have HG2 : Hid (w.grownBy w2 (some b)) := gThen HG1.out (gThen (show w1.grownBy w1.drew (some b) from ⟨rfl, rfl, rfl, Nat.le_refl _, fun _ _ _ => rfl⟩) hg2)
    clear hC2 hg2 c0 c1 c2
    go_wp2_with fail
    go_loop [6, 24] (fun x i => ∃ k a : Int, 0 ≤ k ∧ k ≤ m - 1 ∧ i = .int .i64 k ∧ x = .int .i64 a ∧ 0 ≤ a ∧ a ≤ 40100 ∧ Hid (a = h + d - 1 + cumI y (k + 1))) (fun _ i => (m - intOf i).toNat)
    case atStart => exact ⟨0, h + d - 1, by omega, by omega, rfl, by go_num, by omega, by omega, by rw [Hid, show (0 : Int) + 1 = 1 by decide, cum_one]; omega⟩
    case round =>
      obtain ⟨k, a, k0, k1, rfl, rfl, a0, a1, HA⟩ := hrel
      by_cases hk : k < m - 1
      · have tk : decide (k < m - 1) = true := by simpa using hk
        have H3 : Hid (∀ w, Mon w → Calls Tryz.prog 57 #[.int .i64 y, .int .i64 (k + 1)] w fun e w' => e = .returned (.int .i64 (lenI y (k + 1))) ∧ w' = w) := fun w hm => impl_monthDays y (k + 1) (by omega) (by omega) (by omega) w hm
        have HS : Hid (cumI y (k + 1 + 1) = cumI y (k + 1) + lenI y (k + 1)) := cum_step y (by omega) (by omega)
        have hl0 := len_ge y (k + 1)
        have hl1 := len_le y (k + 1)
        generalize lenI y (k + 1) = L at *
        go_wp2_with fail
        refine (H3.out _ HM2.out).mono ?_
        rintro e w3 ⟨rfl, rfl⟩
        go_wp2_with fail
        go_round
        case rel =>
          have hb := HBd.out (k + 1 + 1) (by omega) (by omega)
          have q1 := HS.out
          have q2 := HA.out
          exact ⟨k + 1, a + L, by omega, by omega, by go_num, by go_num, by omega, by omega, by rw [Hid, q1, q2]; omega⟩
        case measure => simp [intOf]; omega
      · have tk : decide (k < m - 1) = false := by simpa using hk
        obtain rfl : k = m - 1 := by omega
        go_wp2_with fail
        go_ret2
        refine ⟨?_, HC2.out, HG2.out⟩
        have q2 := HA.out
        rw [show m - 1 + 1 = m by omega] at q2
        rw [HR.out, ← q2]; rfl


set_option maxRecDepth 100000 in
set_option maxHeartbeats 4000000 in
theorem impl_dateA (day q y : Int) (d0 : 0 ≤ day) (d1 : day ≤ 36524) (hq : day / 366 = q) (hy : 2000 + q + 1 = y) (y0 : 2000 ≤ y) (y1 : y ≤ 2099) (HY : Hid (headI y ≤ day)) (HY2 : Hid (day < headI (y + 1))) (b n : Nat) (hn : n < 900) (w : World) (hC : Cal w b n) (hM : Mon w) (hG : 2 ≠ b) :
    Calls Tryz.prog 56 #[.map (some b), .int .i64 day] w fun e w' => e = .returned (dateV (dateB day)) ∧ Cal w' b (n + 2) ∧ w.grownBy w' (some b) := by
  have hlt := hC.lt
  have hqb : 0 ≤ q ∧ q ≤ 99 := by omega
  obtain ⟨q0, q1⟩ := hqb
  have HC : Hid (Cal w b n) := hC
  have HM : Hid (Mon w) := hM
  have HNE : Hid (some w.heap.size ≠ some b) := by rw [Hid]; simp; omega
  clear hC hM
  have H2 : Hid (∀ n, n < 1000 → ∀ w, Cal w b n → Calls Tryz.prog 75 #[.map (some b), .int .i64 y] w fun e w' => e = .returned (.int .i64 (headI y)) ∧ Cal w' b (n + 1) ∧ w.grownBy w' (some b)) := fun n hn w h => impl_first y y0 (by omega) b n (by omega) w h
  obtain ⟨h0, h1⟩ := head_bounds (y := y) (by omega) (by omega)
  have tl : decide (headI y ≤ day) = true := by have := HY.out; simpa using this
  have H1 := H2
  go_enter Tryz.func56, Tryz.ntmps56
  go_wp2_with fail
  refine (H1.out n (by omega) _ (by exact HC.out.alloc _)).mono ?_
  rintro e w1 ⟨rfl, hC1, hg1⟩
  have hs1 : w.heap.size < w1.heap.size := by have := hg1.size; simp at this; omega
  have HM1 : Hid (Mon w1) := (HM.out.alloc _).grown hg1 hG
  have HG1 : Hid (w.grownBy w1 (some b)) := gThen (World.grownBy_alloc w _ _) hg1
  have cr1 : ∀ j, w1.cell? ⟨w.heap.size, j, none⟩ = (w.alloc (.cells #[.int .i64 0, .int .i64 0, .int .i64 0] 53)).cell? ⟨w.heap.size, j, none⟩ := fun j =>
    World.cell?_of_block (hg1.block w.heap.size (by simp) HNE.out)
  have fr1 : ∀ j, w1.frozen? ⟨w.heap.size, j, none⟩ = (w.alloc (.cells #[.int .i64 0, .int .i64 0, .int .i64 0] 53)).frozen? ⟨w.heap.size, j, none⟩ := fun j =>
    World.frozen?_of_block (hg1.block w.heap.size (by simp) HNE.out)
  have HC1 : Hid (Cal w1 b (n + 1)) := hC1
  clear hg1 hC1
  go_wp2_with fail
  refine (H2.out (n + 1) (by omega) _ HC1.out).mono ?_
  rintro e w2 ⟨rfl, hC2, hg2⟩

  have HX : Hid (∀ m r : Int, 1 ≤ m → m ≤ 12 → 1 ≤ r → r ≤ lenI y m → r = day - headI y - cumI y m + 1 → dateB day = (y, m, r)) := fun m r a b c d e => dateB_eq ⟨y0, y1, a, b, by omega, by omega, by omega⟩
  have HT : Hid (day - headI y < cumI y 13) := by
    have := HY2.out
    rw [head_step y0] at this
    rw [Hid]; omega
  have hg := HY.out
  generalize headI y = g at *
  have HM2 : Hid (Mon w2) := HM1.out.grown hg2 hG
  have HG2 : Hid (w.grownBy w2 (some b)) := gThen HG1.out hg2
  have HC2 : Hid (Cal w2 b (n + 2)) := hC2
  have hlt2 : b < w2.heap.size := hC2.lt
  have hws : w.heap.size < w2.heap.size := by have := hg2.size; have := hs1; omega
  have cr : ∀ j, w2.cell? ⟨w.heap.size, j, none⟩ = (w.alloc (.cells #[.int .i64 0, .int .i64 0, .int .i64 0] 53)).cell? ⟨w.heap.size, j, none⟩ := fun j => by
    rw [World.cell?_of_block (w := w1) (hg2.block w.heap.size (by omega) HNE.out)]
    exact cr1 j
  have fr : ∀ j, w2.frozen? ⟨w.heap.size, j, none⟩ = (w.alloc (.cells #[.int .i64 0, .int .i64 0, .int .i64 0] 53)).frozen? ⟨w.heap.size, j, none⟩ := fun j => by
    rw [World.frozen?_of_block (w := w1) (hg2.block w.heap.size (by omega) HNE.out)]
    exact fr1 j
  have CR : Hid (∀ j, w2.cell? ⟨w.heap.size, j, none⟩ = (w.alloc (.cells #[.int .i64 0, .int .i64 0, .int .i64 0] 53)).cell? ⟨w.heap.size, j, none⟩) := cr
  have FR : Hid (∀ j, w2.frozen? ⟨w.heap.size, j, none⟩ = (w.alloc (.cells #[.int .i64 0, .int .i64 0, .int .i64 0] 53)).frozen? ⟨w.heap.size, j, none⟩) := fr
  have HWS : Hid (w.heap.size < w2.heap.size) := hws
  clear hC2 hg2 cr1 fr1 HY HY2 cr fr hs1 hws
  go_wp2_with fail
  go_loopw [27] (fun i wr => ∃ k mm dd : Int, 0 ≤ k ∧ k ≤ 11 ∧ 1 ≤ dd ∧ dd ≤ 40000 ∧ i = .int .i64 k ∧ wr.cell? ⟨w2.heap.size, 0, none⟩ = some (.int .i64 y) ∧ wr.cell? ⟨w2.heap.size, 1, none⟩ = some (.int .i64 mm) ∧ wr.cell? ⟨w2.heap.size, 2, none⟩ = some (.int .i64 dd) ∧ wr.frozen? ⟨w2.heap.size, 1, none⟩ = false ∧ wr.frozen? ⟨w2.heap.size, 2, none⟩ = false ∧ Hid (dd = day - g - cumI y (k + 1) + 1) ∧ Hid (Below w2.heap.size w2 wr) ∧ w2.heap.size < wr.heap.size) (fun i _ => (12 - intOf i).toNat)
  case atStart =>
    refine ⟨0, 0, day - g + 1, by omega, by omega, by omega, by omega, rfl, ?_, ?_, ?_, ?_, ?_, by rw [Hid, show (0 : Int) + 1 = 1 by decide, cum_one]; omega, ?_, ?_⟩
    all_goals first
      | (simp; done)
      | (simp; omega)
      | (unfold Hid; repeat (first | exact Below.refl _ _ | refine Below.setCell ?_ (by simp) _ | refine Below.alloc ?_ (by simp) _))
  case round =>
    obtain ⟨k, mm, dd, k0, k1, dd0, dd1, rfl, x0, x1, x2, f1, f2, HA, HB, hlt3⟩ := hrel
    have tk : decide (k < 12) = true := by simp; omega
    have H3 : Hid (∀ w, Mon w → Calls Tryz.prog 57 #[.int .i64 y, .int .i64 (k + 1)] w fun e w' => e = .returned (.int .i64 (lenI y (k + 1))) ∧ w' = w) := fun w hm => impl_monthDays y (k + 1) (by omega) (by omega) (by omega) w hm
    have HS : Hid (cumI y (k + 1 + 1) = cumI y (k + 1) + lenI y (k + 1)) := cum_step y (by omega) (by omega)
    have hl0 := len_ge y (k + 1)
    have hl1 := len_le y (k + 1)
    have HX2 := HX.out (k + 1) dd (by omega) (by omega) dd0
    have HMr : Hid (Mon (wr.setCell ⟨w2.heap.size, 1, none⟩ (.int .i64 (k + 1)))) := (HM2.out.below HB.out).setNew (by have := HM2.out.lt; simp; omega) _
    by_cases hle : dd ≤ lenI y (k + 1)
    · have tl : decide (dd ≤ lenI y (k + 1)) = true := by simpa using hle
      have HE : Hid (dateB day = (y, k + 1, dd)) := HX2 hle HA.out
      clear HX2 hle
      generalize lenI y (k + 1) = L at *
      have r0 : ∀ j, wr.cell? ⟨w.heap.size, j, none⟩ = (w.alloc (.cells #[.int .i64 0, .int .i64 0, .int .i64 0] 53)).cell? ⟨w.heap.size, j, none⟩ := fun j => by
        rw [HB.out.cell (p := ⟨w.heap.size, j, none⟩) HWS.out]; exact CR.out j
      have s0 : ∀ j, wr.frozen? ⟨w.heap.size, j, none⟩ = (w.alloc (.cells #[.int .i64 0, .int .i64 0, .int .i64 0] 53)).frozen? ⟨w.heap.size, j, none⟩ := fun j => by
        rw [HB.out.frozen (p := ⟨w.heap.size, j, none⟩) HWS.out]; exact FR.out j
      have hne2 : w.heap.size ≠ w2.heap.size := by have := HWS.out; omega
      have hne3 : w2.heap.size ≠ w.heap.size := by have := HWS.out; omega
      go_wp2_with fail
      go_quiet (first | (go_at_call 57; refine Calls.quiet_of_same (H3.out _ (by exact HMr.out.drewN _))))
      go_wp2_with fail
      refine bodyPost_ret (v := dateV (dateB day)) ?_ rfl ⟨rfl, ?_, ?_⟩
      · rw [HE.out]
        simp [results, Tryz.results56, go_sem, dateV, r0]
      · repeat (first | exact HC2.out.under HB.out | refine Cal.setCell ?_ (by simp; omega) _ | refine Cal.drewN ?_ _)
      · have hgr := gThen HG2.out (grown_any HB.out)
        have hws := HWS.out
        repeat (first | exact hgr | refine grown_set ?_ (by simp <;> omega) _ | refine grown_drewN ?_ _)
    · have tl : decide (dd ≤ lenI y (k + 1)) = false := by simpa using hle
      have HK : Hid (k + 1 ≤ 11) := by
        rcases (by omega : k < 11 ∨ k = 11) with h | rfl
        · rw [Hid]; omega
        · have a := HT.out
          have b : cumI y 13 = cumI y 12 + lenI y 12 := HS.out
          have c : dd = day - g - cumI y 12 + 1 := HA.out
          have e : ¬ dd ≤ lenI y 12 := hle
          omega
      have hle' : lenI y (k + 1) < dd := by omega
      clear HX2 hle
      generalize lenI y (k + 1) = L at *
      go_wp2_with fail
      go_quiet (first | (go_at_call 57; refine Calls.quiet_of_same (H3.out _ (by exact HMr.out.drewN _))))
      go_wp2_with fail
      go_region_with (go_at_call 57; refine (H3.out _ (by exact HMr.out)).mono ?_; rintro e w3 ⟨rfl, rfl⟩)
      all_goals
        go_wp2_with fail
        go_roundw
        case rel =>
          have a := HS.out
          have b := HA.out
          refine ⟨k + 1, k + 1, dd - L, by omega, HK.out, by omega, by omega, by go_num, ?_, ?_, ?_, ?_, ?_, by rw [Hid, a]; omega, ?_, ?_⟩
          all_goals first
            | (simp [go_sem, x0, x1, x2]; done)
            | (simp [f1, f2]; done)
            | (simp [World.setCell]; omega)
            | (unfold Hid; repeat (first | exact HB.out | refine below_drewN ?_ _ | refine Below.drew ?_ | refine Below.setCell ?_ (by simp) _))
        case measure => simp [intOf]; omega

set_option maxRecDepth 100000 in
set_option maxHeartbeats 4000000 in
theorem impl_dateB (day q y : Int) (d0 : 0 ≤ day) (d1 : day ≤ 36524) (hq : day / 366 = q) (hy : 2000 + q = y) (y0 : 2000 ≤ y) (y1 : y ≤ 2099) (HY : Hid (headI y ≤ day)) (HY2 : Hid (day < headI (y + 1))) (b n : Nat) (hn : n < 900) (w : World) (hC : Cal w b n) (hM : Mon w) (hG : 2 ≠ b) :
    Calls Tryz.prog 56 #[.map (some b), .int .i64 day] w fun e w' => e = .returned (dateV (dateB day)) ∧ Cal w' b (n + 2) ∧ w.grownBy w' (some b) := by
  have hlt := hC.lt
  have hqb : 0 ≤ q ∧ q ≤ 99 := by omega
  obtain ⟨q0, q1⟩ := hqb
  have HC : Hid (Cal w b n) := hC
  have HM : Hid (Mon w) := hM
  have HNE : Hid (some w.heap.size ≠ some b) := by rw [Hid]; simp; omega
  clear hC hM
  have H2 : Hid (∀ n, n < 1000 → ∀ w, Cal w b n → Calls Tryz.prog 75 #[.map (some b), .int .i64 y] w fun e w' => e = .returned (.int .i64 (headI y)) ∧ Cal w' b (n + 1) ∧ w.grownBy w' (some b)) := fun n hn w h => impl_first y y0 (by omega) b n (by omega) w h
  obtain ⟨h0, h1⟩ := head_bounds (y := y) (by omega) (by omega)
  have H1 : Hid (∀ n, n < 1000 → ∀ w, Cal w b n → Calls Tryz.prog 75 #[.map (some b), .int .i64 (y + 1)] w fun e w' => e = .returned (.int .i64 (headI (y + 1))) ∧ Cal w' b (n + 1) ∧ w.grownBy w' (some b)) := fun n hn w h => impl_first (y + 1) (by omega) (by omega) b n (by omega) w h
  have tl : decide (headI (y + 1) ≤ day) = false := by have := HY2.out; simp; omega
  obtain ⟨g0, g1⟩ := head_bounds (y := y + 1) (by omega) (by omega)
  obtain ⟨h', hh'⟩ : ∃ h', headI (y + 1) = h' := ⟨_, rfl⟩
  rw [hh'] at H1 tl g0 g1
  clear hh'
  go_enter Tryz.func56, Tryz.ntmps56
  go_wp2_with fail
  refine (H1.out n (by omega) _ (by exact HC.out.alloc _)).mono ?_
  rintro e w1 ⟨rfl, hC1, hg1⟩
  have hs1 : w.heap.size < w1.heap.size := by have := hg1.size; simp at this; omega
  have HM1 : Hid (Mon w1) := (HM.out.alloc _).grown hg1 hG
  have HG1 : Hid (w.grownBy w1 (some b)) := gThen (World.grownBy_alloc w _ _) hg1
  have cr1 : ∀ j, w1.cell? ⟨w.heap.size, j, none⟩ = (w.alloc (.cells #[.int .i64 0, .int .i64 0, .int .i64 0] 53)).cell? ⟨w.heap.size, j, none⟩ := fun j =>
    World.cell?_of_block (hg1.block w.heap.size (by simp) HNE.out)
  have fr1 : ∀ j, w1.frozen? ⟨w.heap.size, j, none⟩ = (w.alloc (.cells #[.int .i64 0, .int .i64 0, .int .i64 0] 53)).frozen? ⟨w.heap.size, j, none⟩ := fun j =>
    World.frozen?_of_block (hg1.block w.heap.size (by simp) HNE.out)
  have HC1 : Hid (Cal w1 b (n + 1)) := hC1
  clear hg1 hC1
  go_wp2_with fail
  refine (H2.out (n + 1) (by omega) _ HC1.out).mono ?_
  rintro e w2 ⟨rfl, hC2, hg2⟩

  have HX : Hid (∀ m r : Int, 1 ≤ m → m ≤ 12 → 1 ≤ r → r ≤ lenI y m → r = day - headI y - cumI y m + 1 → dateB day = (y, m, r)) := fun m r a b c d e => dateB_eq ⟨y0, y1, a, b, by omega, by omega, by omega⟩
  have HT : Hid (day - headI y < cumI y 13) := by
    have := HY2.out
    rw [head_step y0] at this
    rw [Hid]; omega
  have hg := HY.out
  generalize headI y = g at *
  have HM2 : Hid (Mon w2) := HM1.out.grown hg2 hG
  have HG2 : Hid (w.grownBy w2 (some b)) := gThen HG1.out hg2
  have HC2 : Hid (Cal w2 b (n + 2)) := hC2
  have hlt2 : b < w2.heap.size := hC2.lt
  have hws : w.heap.size < w2.heap.size := by have := hg2.size; have := hs1; omega
  have cr : ∀ j, w2.cell? ⟨w.heap.size, j, none⟩ = (w.alloc (.cells #[.int .i64 0, .int .i64 0, .int .i64 0] 53)).cell? ⟨w.heap.size, j, none⟩ := fun j => by
    rw [World.cell?_of_block (w := w1) (hg2.block w.heap.size (by omega) HNE.out)]
    exact cr1 j
  have fr : ∀ j, w2.frozen? ⟨w.heap.size, j, none⟩ = (w.alloc (.cells #[.int .i64 0, .int .i64 0, .int .i64 0] 53)).frozen? ⟨w.heap.size, j, none⟩ := fun j => by
    rw [World.frozen?_of_block (w := w1) (hg2.block w.heap.size (by omega) HNE.out)]
    exact fr1 j
  have CR : Hid (∀ j, w2.cell? ⟨w.heap.size, j, none⟩ = (w.alloc (.cells #[.int .i64 0, .int .i64 0, .int .i64 0] 53)).cell? ⟨w.heap.size, j, none⟩) := cr
  have FR : Hid (∀ j, w2.frozen? ⟨w.heap.size, j, none⟩ = (w.alloc (.cells #[.int .i64 0, .int .i64 0, .int .i64 0] 53)).frozen? ⟨w.heap.size, j, none⟩) := fr
  have HWS : Hid (w.heap.size < w2.heap.size) := hws
  clear hC2 hg2 cr1 fr1 HY HY2 cr fr hs1 hws
  go_wp2_with fail
  go_loopw [27] (fun i wr => ∃ k mm dd : Int, 0 ≤ k ∧ k ≤ 11 ∧ 1 ≤ dd ∧ dd ≤ 40000 ∧ i = .int .i64 k ∧ wr.cell? ⟨w2.heap.size, 0, none⟩ = some (.int .i64 y) ∧ wr.cell? ⟨w2.heap.size, 1, none⟩ = some (.int .i64 mm) ∧ wr.cell? ⟨w2.heap.size, 2, none⟩ = some (.int .i64 dd) ∧ wr.frozen? ⟨w2.heap.size, 1, none⟩ = false ∧ wr.frozen? ⟨w2.heap.size, 2, none⟩ = false ∧ Hid (dd = day - g - cumI y (k + 1) + 1) ∧ Hid (Below w2.heap.size w2 wr) ∧ w2.heap.size < wr.heap.size) (fun i _ => (12 - intOf i).toNat)
  case atStart =>
    refine ⟨0, 0, day - g + 1, by omega, by omega, by omega, by omega, rfl, ?_, ?_, ?_, ?_, ?_, by rw [Hid, show (0 : Int) + 1 = 1 by decide, cum_one]; omega, ?_, ?_⟩
    all_goals first
      | (simp; done)
      | (simp; omega)
      | (unfold Hid; repeat (first | exact Below.refl _ _ | refine Below.setCell ?_ (by simp) _ | refine Below.alloc ?_ (by simp) _))
  case round =>
    obtain ⟨k, mm, dd, k0, k1, dd0, dd1, rfl, x0, x1, x2, f1, f2, HA, HB, hlt3⟩ := hrel
    have tk : decide (k < 12) = true := by simp; omega
    have H3 : Hid (∀ w, Mon w → Calls Tryz.prog 57 #[.int .i64 y, .int .i64 (k + 1)] w fun e w' => e = .returned (.int .i64 (lenI y (k + 1))) ∧ w' = w) := fun w hm => impl_monthDays y (k + 1) (by omega) (by omega) (by omega) w hm
    have HS : Hid (cumI y (k + 1 + 1) = cumI y (k + 1) + lenI y (k + 1)) := cum_step y (by omega) (by omega)
    have hl0 := len_ge y (k + 1)
    have hl1 := len_le y (k + 1)
    have HX2 := HX.out (k + 1) dd (by omega) (by omega) dd0
    have HMr : Hid (Mon (wr.setCell ⟨w2.heap.size, 1, none⟩ (.int .i64 (k + 1)))) := (HM2.out.below HB.out).setNew (by have := HM2.out.lt; simp; omega) _
    by_cases hle : dd ≤ lenI y (k + 1)
    · have tl : decide (dd ≤ lenI y (k + 1)) = true := by simpa using hle
      have HE : Hid (dateB day = (y, k + 1, dd)) := HX2 hle HA.out
      clear HX2 hle
      generalize lenI y (k + 1) = L at *
      have r0 : ∀ j, wr.cell? ⟨w.heap.size, j, none⟩ = (w.alloc (.cells #[.int .i64 0, .int .i64 0, .int .i64 0] 53)).cell? ⟨w.heap.size, j, none⟩ := fun j => by
        rw [HB.out.cell (p := ⟨w.heap.size, j, none⟩) HWS.out]; exact CR.out j
      have s0 : ∀ j, wr.frozen? ⟨w.heap.size, j, none⟩ = (w.alloc (.cells #[.int .i64 0, .int .i64 0, .int .i64 0] 53)).frozen? ⟨w.heap.size, j, none⟩ := fun j => by
        rw [HB.out.frozen (p := ⟨w.heap.size, j, none⟩) HWS.out]; exact FR.out j
      have hne2 : w.heap.size ≠ w2.heap.size := by have := HWS.out; omega
      have hne3 : w2.heap.size ≠ w.heap.size := by have := HWS.out; omega
      go_wp2_with fail
      go_quiet (first | (go_at_call 57; refine Calls.quiet_of_same (H3.out _ (by exact HMr.out.drewN _))))
      go_wp2_with fail
      refine bodyPost_ret (v := dateV (dateB day)) ?_ rfl ⟨rfl, ?_, ?_⟩
      · rw [HE.out]
        simp [results, Tryz.results56, go_sem, dateV, r0]
      · repeat (first | exact HC2.out.under HB.out | refine Cal.setCell ?_ (by simp; omega) _ | refine Cal.drewN ?_ _)
      · have hgr := gThen HG2.out (grown_any HB.out)
        have hws := HWS.out
        repeat (first | exact hgr | refine grown_set ?_ (by simp <;> omega) _ | refine grown_drewN ?_ _)
    · have tl : decide (dd ≤ lenI y (k + 1)) = false := by simpa using hle
      have HK : Hid (k + 1 ≤ 11) := by
        rcases (by omega : k < 11 ∨ k = 11) with h | rfl
        · rw [Hid]; omega
        · have a := HT.out
          have b : cumI y 13 = cumI y 12 + lenI y 12 := HS.out
          have c : dd = day - g - cumI y 12 + 1 := HA.out
          have e : ¬ dd ≤ lenI y 12 := hle
          omega
      have hle' : lenI y (k + 1) < dd := by omega
      clear HX2 hle
      generalize lenI y (k + 1) = L at *
      go_wp2_with fail
      go_quiet (first | (go_at_call 57; refine Calls.quiet_of_same (H3.out _ (by exact HMr.out.drewN _))))
      go_wp2_with fail
      go_region_with (go_at_call 57; refine (H3.out _ (by exact HMr.out)).mono ?_; rintro e w3 ⟨rfl, rfl⟩)
      all_goals
        go_wp2_with fail
        go_roundw
        case rel =>
          have a := HS.out
          have b := HA.out
          refine ⟨k + 1, k + 1, dd - L, by omega, HK.out, by omega, by omega, by go_num, ?_, ?_, ?_, ?_, ?_, by rw [Hid, a]; omega, ?_, ?_⟩
          all_goals first
            | (simp [go_sem, x0, x1, x2]; done)
            | (simp [f1, f2]; done)
            | (simp [World.setCell]; omega)
            | (unfold Hid; repeat (first | exact HB.out | refine below_drewN ?_ _ | refine Below.drew ?_ | refine Below.setCell ?_ (by simp) _))
        case measure => simp [intOf]; omega

theorem impl_date (day : Int) (d0 : 0 ≤ day) (d1 : day ≤ 36524) (b n : Nat) (hn : n < 900) (w : World) (hC : Cal w b n) (hM : Mon w) (hG : 2 ≠ b) :
    Calls Tryz.prog 56 #[.map (some b), .int .i64 day] w fun e w' => e = .returned (dateV (dateB day)) ∧ Cal w' b (n + 2) ∧ w.grownBy w' (some b) := by
  obtain ⟨y0, y1, h0, h1⟩ := yB_is d0 d1
  by_cases h : headI (2000 + day / 366 + 1) ≤ day
  · have e : yB day = 2000 + day / 366 + 1 := by rw [yB, if_pos h]
    rw [e] at y0 y1 h0 h1
    exact impl_dateA day _ _ d0 d1 rfl rfl y0 y1 h0 h1 b n hn w hC hM hG
  · have e : yB day = 2000 + day / 366 := by rw [yB, if_neg h]
    rw [e] at y0 y1 h0 h1
    exact impl_dateB day _ _ d0 d1 rfl rfl y0 y1 h0 h1 b n hn w hC hM hG

end Go.Proofs.YtnefcldjigndgaaGreatDoor
