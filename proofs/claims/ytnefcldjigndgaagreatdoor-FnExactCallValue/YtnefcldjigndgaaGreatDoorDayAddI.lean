/- DayAdd of the program: what addMonths and DayAdd do. -/
import Derived.Test.YtnefcldjigndgaaGreatDoorDayTop
namespace Go.Proofs.YtnefcldjigndgaaGreatDoor
open Go.RowKit

theorem dayAddB_zero (day n : Int) : (dayAddB day n).2 ≠ 0 → (dayAddB day n).1 = 0 := by unfold dayAddB; (repeat' split) <;> simp

set_option maxRecDepth 100000 in
set_option maxHeartbeats 4000000 in
theorem impl_addMonths (day n : Int) (w : World) (hM : Mon w) :
    Calls Tryz.prog 39 #[.int .i64 day, .int .i64 n] w fun e w' => e = .returned (tupV (dayAddB day n)) ∧ Below w.heap.size w w' := by
  have hmm := @run_makeMap Tryz.prog
  have hlt := hM.lt
  have HM : Hid (Mon w) := hM
  clear hM
  cases hr : dayRB day
  · have HR : Hid (dayAddB day n = (0, 1)) := by simp [Hid, dayAddB, hr]
    have H : Hid (dayRB day = false) := hr
    clear hr
    go_enter Tryz.func39, Tryz.ntmps39
    go_wp2_with fail
    refine (impl_dayRight _ _).mono ?_
    rintro e w1 ⟨rfl, rfl⟩
    rw [H.out]
    go_wp2_with fail
    go_ret2
    exact ⟨by rw [HR.out, tupV_err _ _ (by decide)]; rfl, Below.refl _ _⟩
  have H : Hid (dayRB day = true) := hr

  by_cases c0 : n < -1200
  · have t0 : decide (n < -1200) = true := by simpa using c0
    have HR : Hid (dayAddB day n = (0, 13)) := by rw [Hid, dayAddB, if_pos hr, if_neg]; omega
    clear hr
    go_enter Tryz.func39, Tryz.ntmps39
    go_wp2_with fail
    refine (impl_dayRight _ _).mono ?_
    rintro e w1 ⟨rfl, rfl⟩
    rw [H.out]
    go_wp2_with fail
    go_ret2
    exact ⟨by rw [HR.out, tupV_err _ _ (by decide)]; rfl, Below.refl _ _⟩
  have t0 : decide (n < -1200) = false := by simpa using c0
  by_cases c1 : 1200 < n
  · have t1 : decide (1200 < n) = true := by simpa using c1
    have HR : Hid (dayAddB day n = (0, 13)) := by rw [Hid, dayAddB, if_pos hr, if_neg]; omega
    clear hr
    go_enter Tryz.func39, Tryz.ntmps39
    go_wp2_with fail
    refine (impl_dayRight _ _).mono ?_
    rintro e w1 ⟨rfl, rfl⟩
    rw [H.out]
    go_wp2_with fail
    go_ret2
    exact ⟨by rw [HR.out, tupV_err _ _ (by decide)]; rfl, Below.refl _ _⟩
  have t1 : decide (1200 < n) = false := by simpa using c1
  obtain ⟨d0, d1⟩ := (dayRB_iff day).1 hr
  have hI := dateB_is d0 d1
  have HR : Hid (dayAddB day n = if 0 ≤ addKB day n ∧ addKB day n < 1200 then (numB (monB (addKB day n) (dateB day).2.2).1 (monB (addKB day n) (dateB day).2.2).2.1 (monB (addKB day n) (dateB day).2.2).2.2, 0) else (0, 13)) := by rw [Hid, dayAddB, if_pos hr, if_pos]; omega
  have H1 : Hid (∀ b w, Cal w b 0 → Mon w → 2 ≠ b → Calls Tryz.prog 56 #[.map (some b), .int .i64 day] w fun e w' => e = .returned (dateV (dateB day)) ∧ Cal w' b (0 + 2) ∧ w.grownBy w' (some b)) := fun b w hC hM hG => impl_date day d0 d1 b 0 (by omega) w hC hM hG
  have hKe : addKB day n = 12 * ((dateB day).1 - 2000) + (dateB day).2.1 - 1 + n := rfl
  rw [hKe] at HR
  clear hr hKe
  generalize dateB day = D at *
  obtain ⟨y, m, d⟩ := D
  simp only [dateV] at HR H1 hI
  have y0 := hI.y0
  have y1 := hI.y1
  have m0 := hI.m0
  have m1 := hI.m1
  have e0 := hI.d0
  have e1 : d ≤ 31 := by have := hI.d1; have := len_le y m; omega
  clear hI
  obtain ⟨c, hc0⟩ : ∃ c, 12 * y + m - 1 + n = c := ⟨_, rfl⟩
  have hKc : 12 * (y - 2000) + m - 1 + n = c - 24000 := by omega
  rw [hKc] at HR
  clear hKc
  have hcb : 22800 ≤ c ∧ c ≤ 26399 := by omega
  obtain ⟨C0, C1⟩ := hcb
  have hqb : c / 12 = 2000 + (c - 24000) / 12 ∧ c % 12 = (c - 24000) % 12 := by omega
  have HR0 : Hid (dayAddB day n = if 2000 ≤ c / 12 ∧ c / 12 ≤ 2099 then (numB (c / 12) (c % 12 + 1) (min d (lenI (c / 12) (c % 12 + 1))), 0) else (0, 13)) := by
    rw [Hid, HR.out]
    by_cases hh : 0 ≤ c - 24000 ∧ c - 24000 < 1200
    · rw [if_pos hh, if_pos (by omega), hqb.1, hqb.2]; rfl
    · rw [if_neg hh, if_neg (by omega)]
  clear HR hqb
  have hrb : 0 ≤ c % 12 ∧ c % 12 ≤ 11 ∧ 1900 ≤ c / 12 ∧ c / 12 ≤ 2200 := by omega
  obtain ⟨q, hq⟩ : ∃ q, c / 12 = q := ⟨_, rfl⟩
  obtain ⟨r, hr⟩ : ∃ r, c % 12 = r := ⟨_, rfl⟩
  rw [hq, hr] at HR0 hrb
  obtain ⟨r0, r1, q0, q1⟩ := hrb

  by_cases k0 : q < 2000
  · have u0 : decide (q < 2000) = true := by simpa using k0
    have HR2 : Hid (dayAddB day n = (0, 13)) := by rw [Hid, HR0.out, if_neg]; omega
    clear HR0
    go_enter Tryz.func39, Tryz.ntmps39
    go_wp2_with fail
    refine (impl_dayRight _ _).mono ?_
    rintro e w0 ⟨rfl, hw0⟩
    rw [hw0, H.out]
    clear hw0
    go_wp2_with fail
    refine (H1.out _ _ (Cal.new rfl) (by exact HM.out.alloc _) (by omega)).mono ?_
    rintro e w2 ⟨rfl, hC2, hg2⟩
    have hs2 : w.heap.size < w2.heap.size := by have := hg2.size; simp at this; omega
    have HC2 : Hid (Cal w2 w.heap.size 2) := hC2
    have HM2 : Hid (Mon w2) := (HM.out.alloc _).grown hg2 (by omega)
    have HB2 : Hid (Below w.heap.size w w2) := Below.grown ((Below.refl _ _).alloc (Nat.le_refl _) _) hg2 (by simp) (fun k hk => by cases hk; exact Nat.le_refl _)
    clear hC2 hg2
    go_wp2_with fail
    go_ret2
    exact ⟨by rw [HR2.out, tupV_err _ _ (by decide)]; rfl, by repeat (first | exact HB2.out | refine Below.setCell ?_ (by simp <;> omega) _ | refine Below.alloc ?_ (by first | omega | (simp; done) | (simp [World.setCell]; omega)) _)⟩
  have u0 : decide (q < 2000) = false := by simpa using k0
  by_cases k1 : 2099 < q
  · have u1 : decide (2099 < q) = true := by simpa using k1
    have HR2 : Hid (dayAddB day n = (0, 13)) := by rw [Hid, HR0.out, if_neg]; omega
    clear HR0
    go_enter Tryz.func39, Tryz.ntmps39
    go_wp2_with fail
    refine (impl_dayRight _ _).mono ?_
    rintro e w0 ⟨rfl, hw0⟩
    rw [hw0, H.out]
    clear hw0
    go_wp2_with fail
    refine (H1.out _ _ (Cal.new rfl) (by exact HM.out.alloc _) (by omega)).mono ?_
    rintro e w2 ⟨rfl, hC2, hg2⟩
    have hs2 : w.heap.size < w2.heap.size := by have := hg2.size; simp at this; omega
    have HC2 : Hid (Cal w2 w.heap.size 2) := hC2
    have HM2 : Hid (Mon w2) := (HM.out.alloc _).grown hg2 (by omega)
    have HB2 : Hid (Below w.heap.size w w2) := Below.grown ((Below.refl _ _).alloc (Nat.le_refl _) _) hg2 (by simp) (fun k hk => by cases hk; exact Nat.le_refl _)
    clear hC2 hg2
    go_wp2_with fail
    go_ret2
    exact ⟨by rw [HR2.out, tupV_err _ _ (by decide)]; rfl, by repeat (first | exact HB2.out | refine Below.setCell ?_ (by simp <;> omega) _ | refine Below.alloc ?_ (by first | omega | (simp; done) | (simp [World.setCell]; omega)) _)⟩
  have u1 : decide (2099 < q) = false := by simpa using k1
  have HR2 : Hid (dayAddB day n = (numB q (r + 1) (min d (lenI q (r + 1))), 0)) := by rw [Hid, HR0.out, if_pos]; omega
  have hl0 := len_ge q (r + 1)
  have hl1 := len_le q (r + 1)
  have H3 : Hid (∀ w, Mon w → Calls Tryz.prog 57 #[.int .i64 q, .int .i64 (r + 1)] w fun e w' => e = .returned (.int .i64 (lenI q (r + 1))) ∧ w' = w) := fun w h => impl_monthDays _ _ (by omega) (by omega) (by omega) w h
  have H5 : Hid (∀ b w, Cal w b 2 → Mon w → 2 ≠ b → Calls Tryz.prog 58 #[.map (some b), .agg #[.int .i64 q, .int .i64 (r + 1), .int .i64 (min d (lenI q (r + 1)))]] w fun e w' => e = .returned (tupV (numB q (r + 1) (min d (lenI q (r + 1))), 0)) ∧ Cal w' b (2 + 1) ∧ w.grownBy w' (some b)) := fun b w hC hM hG => by
    have h := impl_day q (r + 1) (min d (lenI q (r + 1))) b 2 (by omega) w hC hM hG
    have e : dateRB q (r + 1) (min d (lenI q (r + 1))) = true := by simp [dateRB]; omega
    rw [dayOfB, if_pos e] at h
    exact h
  clear HR0
  generalize lenI q (r + 1) = L at *
  generalize numB q (r + 1) (min d L) = N at *
  obtain ⟨M, hMin⟩ : ∃ M, min d L = M := ⟨_, rfl⟩
  rw [hMin] at H5
  have HMin : Hid (min d L = M) := hMin
  clear hMin k0 k1
  by_cases hld : L < d
  · obtain rfl : L = M := by have := HMin.out; omega
    clear HMin
    go_enter Tryz.func39, Tryz.ntmps39
    go_wp2_with fail
    refine (impl_dayRight _ _).mono ?_
    rintro e w0 ⟨rfl, hw0⟩
    rw [hw0, H.out]
    clear hw0
    go_wp2_with fail
    refine (H1.out _ _ (Cal.new rfl) (by exact HM.out.alloc _) (by omega)).mono ?_
    rintro e w2 ⟨rfl, hC2, hg2⟩
    have hs2 : w.heap.size < w2.heap.size := by have := hg2.size; simp at this; omega
    have HC2 : Hid (Cal w2 w.heap.size 2) := hC2
    have HM2 : Hid (Mon w2) := (HM.out.alloc _).grown hg2 (by omega)
    have HB2 : Hid (Below w.heap.size w w2) := Below.grown ((Below.refl _ _).alloc (Nat.le_refl _) _) hg2 (by simp) (fun k hk => by cases hk; exact Nat.le_refl _)
    clear hC2 hg2
    go_wp2_with fail
    go_region_with (go_at_call 57; refine (H3.out _ (by exact (HM2.out.alloc _))).mono ?_; rintro e w3 ⟨rfl, rfl⟩)
    all_goals
      go_wp2_with fail
      refine (H5.out _ _ (by exact HC2.out.alloc _) (by exact HM2.out.alloc _) (by omega)).mono ?_
      rintro e w5 ⟨rfl, _, hg5⟩
      simp only [tupV]
      have HB5 : Hid (Below w.heap.size w w5) := Below.grown ((HB2.out.alloc (by omega) _).drew) hg5 (by simp; omega) (fun k hk => by cases hk; exact Nat.le_refl _)
      clear hg5
      go_wp2_with fail
      go_ret2
      exact ⟨by rw [HR2.out]; rfl, HB5.out⟩
  · obtain rfl : d = M := by have := HMin.out; omega
    clear HMin
    go_enter Tryz.func39, Tryz.ntmps39
    go_wp2_with fail
    refine (impl_dayRight _ _).mono ?_
    rintro e w0 ⟨rfl, hw0⟩
    rw [hw0, H.out]
    clear hw0
    go_wp2_with fail
    refine (H1.out _ _ (Cal.new rfl) (by exact HM.out.alloc _) (by omega)).mono ?_
    rintro e w2 ⟨rfl, hC2, hg2⟩
    have hs2 : w.heap.size < w2.heap.size := by have := hg2.size; simp at this; omega
    have HC2 : Hid (Cal w2 w.heap.size 2) := hC2
    have HM2 : Hid (Mon w2) := (HM.out.alloc _).grown hg2 (by omega)
    have HB2 : Hid (Below w.heap.size w w2) := Below.grown ((Below.refl _ _).alloc (Nat.le_refl _) _) hg2 (by simp) (fun k hk => by cases hk; exact Nat.le_refl _)
    clear hC2 hg2
    go_wp2_with fail
    go_region_with (go_at_call 57; refine (H3.out _ (by exact (HM2.out.alloc _))).mono ?_; rintro e w3 ⟨rfl, rfl⟩)
    all_goals
      go_wp2_with fail
      refine (H5.out _ _ (by exact HC2.out.alloc _) (by exact HM2.out.alloc _) (by omega)).mono ?_
      rintro e w5 ⟨rfl, _, hg5⟩
      simp only [tupV]
      have HB5 : Hid (Below w.heap.size w w5) := Below.grown ((HB2.out.alloc (by omega) _).drew) hg5 (by simp; omega) (fun k hk => by cases hk; exact Nat.le_refl _)
      clear hg5
      go_wp2_with fail
      go_ret2
      exact ⟨by rw [HR2.out]; rfl, HB5.out⟩


set_option maxRecDepth 100000 in
set_option maxHeartbeats 1000000 in
theorem impl_dayAdd (day n : Int) (w : World) (hM : Mon w) (hL : Lay w) :
    Calls Tryz.prog 71 #[.int .i64 day, .int .i64 n] w fun e w' => e = .returned (moneyV (dayAddB day n)) ∧ Below w.heap.size w w' := by
  have hz := dayAddB_zero day n
  have H1 : Hid (∀ w, Mon w → Calls Tryz.prog 39 #[.int .i64 day, .int .i64 n] w fun e w' => e = .returned (tupV (dayAddB day n)) ∧ Below w.heap.size w w') := fun w h => impl_addMonths day n w h
  generalize dayAddB day n = r at *
  have HL : Hid (Lay w) := hL
  have HM : Hid (Mon w) := hM
  have HZ : Hid (r.2 ≠ 0 → r.1 = 0) := hz
  clear hL hz hM
  go_enter Tryz.func71, Tryz.ntmps71
  go_wp2_with fail
  refine (H1.out _ (by exact HM.out.alloc _)).mono ?_
  rintro e w1 ⟨rfl, hb1⟩
  simp only [tupV]
  have hs1 : w.heap.size < w1.heap.size := by have := hb1.size; simp at this; omega
  have c0 : ∀ j, w1.cell? ⟨w.heap.size, j, none⟩ = (#[Value.int .i64 0, .int .i64 0] : Array Value)[j]? := fun j => by
    rw [hb1.cell (p := ⟨w.heap.size, j, none⟩) (by simp), World.cell?_alloc_new]
  have f0 : ∀ j, w1.frozen? ⟨w.heap.size, j, none⟩ = false := fun j => by
    rw [hb1.frozen (p := ⟨w.heap.size, j, none⟩) (by simp), World.frozen?_alloc_new]
  have HB1 : Hid (Below w.heap.size w w1) := ((Below.refl _ _).alloc (Nat.le_refl _) _).trans (hb1.mono (by simp))
  clear hb1
  go_wp2_with fail
  refine (dout_any r HZ.out _ (by exact HL.out.below HB1.out)).mono ?_
  rintro e w2 ⟨rfl, hb⟩
  simp only [moneyV]
  have c1 : ∀ j, w2.cell? ⟨w.heap.size, j, none⟩ = (#[Value.int .i64 0, .int .i64 0] : Array Value)[j]? := fun j => by
    rw [hb.cell (p := ⟨w.heap.size, j, none⟩) hs1]; exact c0 j
  have f1 : ∀ j, w2.frozen? ⟨w.heap.size, j, none⟩ = false := fun j => by
    rw [hb.frozen (p := ⟨w.heap.size, j, none⟩) hs1]; exact f0 j
  have HB2 : Hid (Below w.heap.size w w2) := HB1.out.trans (hb.mono HB1.out.size)
  clear hb c0 f0
  go_wp2_with fail
  refine bodyPost_ret (v := moneyV r) ?_ rfl ⟨rfl, ?_⟩
  · simp [results, Tryz.results71, go_sem, c1, moneyV]
  · repeat (first | exact HB2.out | refine Below.setCell ?_ (by simp) _)

end Go.Proofs.YtnefcldjigndgaaGreatDoor
