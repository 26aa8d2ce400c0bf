/- DayAdd, of the program and of its model: what each call does. -/
import Derived.Test.YtnefcldjigndgaaGreatDoorDayTop
namespace Go.Proofs.YtnefcldjigndgaaGreatDoor
open Go.RowKit

theorem spec_min (a b : Int) (w : World) :
    Calls Tryz.prog 18 #[.int .i64 a, .int .i64 b] w fun e w' => e = .returned (.int .i64 (min a b)) ∧ w' = w := by
  by_cases h : a < b
  · have t : decide (a < b) = true := by simpa using h
    have HR : Hid (min a b = a) := by rw [Hid]; omega
    go_enter Tryz.func18, Tryz.ntmps18
    go_wp2
    go_ret
    exact ⟨by rw [HR.out]; rfl, rfl⟩
  · have t : decide (a < b) = false := by simpa using h
    have HR : Hid (min a b = b) := by rw [Hid]; omega
    go_enter Tryz.func18, Tryz.ntmps18
    go_wp2
    go_ret
    exact ⟨by rw [HR.out]; rfl, rfl⟩
theorem spec_max (a b : Int) (w : World) :
    Calls Tryz.prog 19 #[.int .i64 a, .int .i64 b] w fun e w' => e = .returned (.int .i64 (max a b)) ∧ w' = w := by
  by_cases h : b < a
  · have t : decide (b < a) = true := by simpa using h
    have HR : Hid (max a b = a) := by rw [Hid]; omega
    go_enter Tryz.func19, Tryz.ntmps19
    go_wp2
    go_ret
    exact ⟨by rw [HR.out]; rfl, rfl⟩
  · have t : decide (b < a) = false := by simpa using h
    have HR : Hid (max a b = b) := by rw [Hid]; omega
    go_enter Tryz.func19, Tryz.ntmps19
    go_wp2
    go_ret
    exact ⟨by rw [HR.out]; rfl, rfl⟩

set_option maxRecDepth 100000 in
set_option maxHeartbeats 4000000 in
theorem spec_dayAdd (day n : Int) (w : World) :
    Calls Tryz.prog 13 #[.int .i64 day, .int .i64 n] w fun e w' => e = .returned (moneyV (dayAddB day n)) ∧ Below w.heap.size w w' := by
  cases hr : dayRB day
  · have HR : Hid (dayAddB day n = (0, 1)) := by simp [Hid, dayAddB, hr]
    have H : Hid (dayRB day = false) := hr
    clear hr
    go_enter Tryz.func13, Tryz.ntmps13
    go_wp2_with fail
    refine (spec_dayRight _ _).mono ?_
    rintro e w1 ⟨rfl, rfl⟩
    rw [H.out]
    go_wp2_with fail
    refine bodyPost_ret (v := moneyV (dayAddB day n)) ?_ rfl ⟨rfl, ?_⟩
    · rw [HR.out]
      simp [results, Tryz.results13, go_sem, moneyV]
    · repeat (first | exact Below.refl _ _ | refine Below.setCell ?_ (by simp) _ | refine Below.alloc ?_ (by simp) _)
  have H : Hid (dayRB day = true) := hr
  by_cases c0 : n < -1200
  · have t0 : decide (n < -1200) = true := by simpa using c0
    have HR : Hid (dayAddB day n = (0, 13)) := by rw [Hid, dayAddB, if_pos hr, if_neg]; omega
    clear hr
    go_enter Tryz.func13, Tryz.ntmps13
    go_wp2_with fail
    refine (spec_dayRight _ _).mono ?_
    rintro e w1 ⟨rfl, rfl⟩
    rw [H.out]
    go_wp2_with fail
    refine bodyPost_ret (v := moneyV (dayAddB day n)) ?_ rfl ⟨rfl, ?_⟩
    · rw [HR.out]
      simp [results, Tryz.results13, go_sem, moneyV]
    · repeat (first | exact Below.refl _ _ | refine Below.setCell ?_ (by simp) _ | refine Below.alloc ?_ (by simp) _)
  have t0 : decide (n < -1200) = false := by simpa using c0
  by_cases c1 : 1200 < n
  · have t1 : decide (1200 < n) = true := by simpa using c1
    have HR : Hid (dayAddB day n = (0, 13)) := by rw [Hid, dayAddB, if_pos hr, if_neg]; omega
    clear hr
    go_enter Tryz.func13, Tryz.ntmps13
    go_wp2_with fail
    refine (spec_dayRight _ _).mono ?_
    rintro e w1 ⟨rfl, rfl⟩
    rw [H.out]
    go_wp2_with fail
    refine bodyPost_ret (v := moneyV (dayAddB day n)) ?_ rfl ⟨rfl, ?_⟩
    · rw [HR.out]
      simp [results, Tryz.results13, go_sem, moneyV]
    · repeat (first | exact Below.refl _ _ | refine Below.setCell ?_ (by simp) _ | refine Below.alloc ?_ (by simp) _)
  have t1 : decide (1200 < n) = false := by simpa using c1
  obtain ⟨d0, d1⟩ := (dayRB_iff day).1 hr
  have hI := dateB_is d0 d1
  have HR : Hid (dayAddB day n = if 0 ≤ addKB day n ∧ addKB day n < 1200 then (numB (monB (addKB day n) (dateB day).2.2).1 (monB (addKB day n) (dateB day).2.2).2.1 (monB (addKB day n) (dateB day).2.2).2.2, 0) else (0, 13)) := by rw [Hid, dayAddB, if_pos hr, if_pos]; omega
  have H1 : Hid (∀ w, Calls Tryz.prog 27 #[.int .i64 day] w fun e w' => e = .returned (dateV (dateB day)) ∧ Below w.heap.size w w') := fun w => by
    have := spec_dateOf day w
    rw [dateOfB, if_pos hr] at this
    exact this
  have hKe : addKB day n = 12 * ((dateB day).1 - 2000) + (dateB day).2.1 - 1 + n := rfl
  rw [hKe] at HR
  clear hr hKe
  generalize dateB day = D at *
  obtain ⟨y, m, d⟩ := D
  simp only [dateV] at HR H1 hI
  have y0 := hI.y0
  have y1 := hI.y1
  have m0 := hI.m0
  have m1 := hI.m1
  have e0 := hI.d0
  have e1 : d ≤ 31 := by have := hI.d1; have := len_le y m; omega
  clear hI
  obtain ⟨K, hK⟩ : ∃ K, 12 * (y - 2000) + m - 1 + n = K := ⟨_, rfl⟩
  rw [hK] at HR
  have hKb : -1200 ≤ K ∧ K ≤ 2399 := by omega
  obtain ⟨K0, K1⟩ := hKb
  by_cases k0 : K < 0
  · have u0 : decide (K < 0) = true := by simpa using k0
    have HR2 : Hid (dayAddB day n = (0, 13)) := by rw [Hid, HR.out, if_neg]; omega
    clear k0 HR
    go_enter Tryz.func13, Tryz.ntmps13
    go_wp2_with fail
    refine (spec_dayRight _ _).mono ?_
    rintro e w1 ⟨rfl, rfl⟩
    rw [H.out]
    go_wp2_with fail
    refine (H1.out _).mono ?_
    rintro e w2 ⟨rfl, hb⟩
    obtain ⟨hc, hf⟩ := bcell hb
    have hz : w.heap.size < w2.heap.size := by have := hb.size; simp at this; omega
    go_wp2_with fail
    refine bodyPost_ret (v := moneyV (dayAddB day n)) ?_ rfl ⟨rfl, ?_⟩
    · rw [HR2.out]
      simp [results, Tryz.results13, go_sem, hc, hz, moneyV]
    · have hbb : Below w.heap.size w w2 := ((Below.refl w.heap.size w).alloc (Nat.le_refl _) _).trans (hb.mono (by simp))
      repeat (first | exact hbb | refine Below.setCell ?_ (by simp <;> omega) _ | refine Below.alloc ?_ (by simp [World.setCell]; omega) _)
  have u0 : decide (K < 0) = false := by simpa using k0
  by_cases k1 : 1200 ≤ K
  · have u1 : decide (1200 ≤ K) = true := by simpa using k1
    have HR2 : Hid (dayAddB day n = (0, 13)) := by rw [Hid, HR.out, if_neg]; omega
    clear k0 k1 HR
    go_enter Tryz.func13, Tryz.ntmps13
    go_wp2_with fail
    refine (spec_dayRight _ _).mono ?_
    rintro e w1 ⟨rfl, rfl⟩
    rw [H.out]
    go_wp2_with fail
    refine (H1.out _).mono ?_
    rintro e w2 ⟨rfl, hb⟩
    obtain ⟨hc, hf⟩ := bcell hb
    have hz : w.heap.size < w2.heap.size := by have := hb.size; simp at this; omega
    go_wp2_with fail
    refine bodyPost_ret (v := moneyV (dayAddB day n)) ?_ rfl ⟨rfl, ?_⟩
    · rw [HR2.out]
      simp [results, Tryz.results13, go_sem, hc, hz, moneyV]
    · have hbb : Below w.heap.size w w2 := ((Below.refl w.heap.size w).alloc (Nat.le_refl _) _).trans (hb.mono (by simp))
      repeat (first | exact hbb | refine Below.setCell ?_ (by simp <;> omega) _ | refine Below.alloc ?_ (by simp [World.setCell]; omega) _)
  have u1 : decide (1200 ≤ K) = false := by simpa using k1
  have HR2 : Hid (dayAddB day n = (numB (2000 + K / 12) (K % 12 + 1) (min d (lenI (2000 + K / 12) (K % 12 + 1))), 0)) := by rw [Hid, HR.out, if_pos (by omega)]; rfl
  clear HR
  have hqb : 0 ≤ K / 12 ∧ K / 12 ≤ 99 ∧ 0 ≤ K % 12 ∧ K % 12 ≤ 11 := by omega
  obtain ⟨q, hq⟩ : ∃ q, K / 12 = q := ⟨_, rfl⟩
  obtain ⟨r, hr⟩ : ∃ r, K % 12 = r := ⟨_, rfl⟩
  rw [hq, hr] at hqb HR2
  obtain ⟨q0, q1, r0, r1⟩ := hqb
  have H3 : Hid (∀ w, Calls Tryz.prog 28 #[.int .i64 (2000 + q), .int .i64 (r + 1)] w fun e w' => e = .returned (.int .i64 (lenI (2000 + q) (r + 1))) ∧ w' = w) := fun w => spec_len _ _ (by omega) w
  have hl0 := len_ge (2000 + q) (r + 1)
  have hl1 := len_le (2000 + q) (r + 1)
  have H5 : Hid (∀ w, Calls Tryz.prog 29 #[.agg #[.int .i64 (2000 + q), .int .i64 (r + 1), .int .i64 (min d (lenI (2000 + q) (r + 1)))]] w fun e w' => e = .returned (.int .i64 (numB (2000 + q) (r + 1) (min d (lenI (2000 + q) (r + 1))))) ∧ Below w.heap.size w w') := fun w => spec_num _ _ _ (by omega) (by omega) (by omega) (by omega) (by omega) (by omega) w
  generalize lenI (2000 + q) (r + 1) = L at *
  have H4 : Hid (∀ w, Calls Tryz.prog 18 #[.int .i64 d, .int .i64 L] w fun e w' => e = .returned (.int .i64 (min d L)) ∧ w' = w) := fun w => spec_min _ _ w
  generalize min d L = M at *
  generalize numB (2000 + q) (r + 1) M = N at *
  clear k0 k1
  go_enter Tryz.func13, Tryz.ntmps13
  go_wp2_with fail
  refine (spec_dayRight _ _).mono ?_
  rintro e w1 ⟨rfl, rfl⟩
  rw [H.out]
  go_wp2_with fail
  refine (H1.out _).mono ?_
  rintro e w2 ⟨rfl, hb⟩
  obtain ⟨hc, hf⟩ := bcell hb
  have hz : w.heap.size < w2.heap.size := by have := hb.size; simp at this; omega
  have HB2 : Hid (Below w.heap.size w w2) := ((Below.refl w.heap.size w).alloc (Nat.le_refl _) _).trans (hb.mono (by simp))
  clear hb
  go_wp2_with fail
  go_region_with (first | (go_at_call 28; refine (H3.out _).mono ?_; rintro e w3 ⟨rfl, rfl⟩) | (go_at_call 18; refine (H4.out _).mono ?_; rintro e w4 ⟨rfl, rfl⟩))
  all_goals
    go_wp2_with fail
    refine (H5.out _).mono ?_
    rintro e w5 ⟨rfl, hb5⟩
    have r0 : ∀ j, w5.cell? ⟨w.heap.size, j, none⟩ = (#[Value.int .i64 0, .int .i64 0] : Array Value)[j]? := fun j => by
      rw [hb5.cell (p := ⟨w.heap.size, j, none⟩) (by simp; omega)]
      show (w2.alloc _).cell? _ = _
      rw [World.cell?_alloc_past _ _ _ hz, hc _ _ (by simp), World.cell?_alloc_new]
    have s0 : ∀ j, w5.frozen? ⟨w.heap.size, j, none⟩ = false := fun j => by
      rw [hb5.frozen (p := ⟨w.heap.size, j, none⟩) (by simp; omega)]
      show (w2.alloc _).frozen? _ = _
      rw [World.frozen?_alloc_past _ _ _ hz, hf _ _ (by simp), World.frozen?_alloc_new]
    have HB5 : Hid (Below w.heap.size w w5) := ((HB2.out.alloc (by omega) _).drew).trans (hb5.mono (by simp; omega))
    clear hb5 hc hf
    go_wp2_with fail
    refine bodyPost_ret (v := moneyV (dayAddB day n)) ?_ rfl ⟨rfl, ?_⟩
    · rw [HR2.out]
      simp [results, Tryz.results13, go_sem, r0, moneyV]
    · repeat (first | exact HB5.out | refine Below.setCell ?_ (by simp) _)
end Go.Proofs.YtnefcldjigndgaaGreatDoor
