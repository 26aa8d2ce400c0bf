/- Dates, the model's side: l03Day, DayOf, DateOf: what each call does. -/
import Derived.Test.YtnefcldjigndgaaGreatDoorCal
import Derived.BigQuiet
import Derived.Deep.RegionWith
import Derived.Deep.QuietTactic
namespace Go.Proofs.YtnefcldjigndgaaGreatDoor
open Go.RowKit

theorem below_drewN {B : Nat} {a w : World} (h : Below B a w) (n : Nat) : Below B a (w.drewN n) := ⟨h.os, h.tape, h.output, h.size, h.block⟩
def dateV (r : Int × Int × Int) : Value := .agg #[.int .i64 r.1, .int .i64 r.2.1, .int .i64 r.2.2]
theorem num_bounds {y m : Int} (y0 : 2000 ≤ y) (y1 : y ≤ 2099) (m0 : 1 ≤ m) (m1 : m ≤ 13) : 0 ≤ headI y + cumI y m ∧ headI y + cumI y m ≤ 40000 := by
  have := cum_nonneg y m0 m1
  have := cum_le y m0 m1
  have := head_mono y0
  have := head_mono (show y ≤ 2100 by omega)
  have e1 : headI 2000 = 0 := by decide
  have e2 : headI 2100 = 36525 := by decide
  omega
theorem head_bounds {y : Int} (y0 : 2000 ≤ y) (y1 : y ≤ 2100) : 0 ≤ headI y ∧ headI y ≤ 36525 := by
  have := head_mono y0
  have := head_mono y1
  have e1 : headI 2000 = 0 := by decide
  have e2 : headI 2100 = 36525 := by decide
  omega

set_option maxRecDepth 100000 in
set_option maxHeartbeats 1000000 in
theorem spec_num (y m d : Int) (y0 : 2000 ≤ y) (y1 : y ≤ 2099) (m0 : 1 ≤ m) (m1 : m ≤ 12) (d0 : 1 ≤ d) (d1 : d ≤ 31) (w : World) :
    Calls Tryz.prog 29 #[.agg #[.int .i64 y, .int .i64 m, .int .i64 d]] w fun e w' => e = .returned (.int .i64 (numB y m d)) ∧ Below w.heap.size w w' := by
  have hh := head_bounds y0 (show y ≤ 2100 by omega)
  have H1 : Hid (∀ w, Calls Tryz.prog 44 #[.int .i64 y] w fun e w' => e = .returned (.int .i64 (headI y)) ∧ w' = w) := fun w => spec_head y y0 (by omega) w
  have HN : Hid (numB y m d = headI y + cumI y m + d - 1) := rfl
  have HB : Hid (∀ k, 1 ≤ k → k ≤ 12 → 0 ≤ headI y + cumI y k ∧ headI y + cumI y k ≤ 40000) := fun k k0 k1 => num_bounds y0 y1 k0 (by omega)
  have HC : Hid (headI y = headI y + cumI y 1) := by rw [Hid, cum_one]; omega
  obtain ⟨h0, h1⟩ := hh
  obtain ⟨h, hhe⟩ : ∃ h, headI y = h := ⟨_, rfl⟩
  rw [hhe] at H1 HN HB HC h0 h1
  clear hhe
  go_enter Tryz.func29, Tryz.ntmps29
  go_wp2_with fail
  refine (H1.out _).mono ?_
  rintro e w1 ⟨rfl, rfl⟩
  go_wp2_with fail
  go_loop [3, 4] (fun n i => ∃ k a : Int, 1 ≤ k ∧ k ≤ m ∧ i = .int .i64 k ∧ n = .int .i64 a ∧ 0 ≤ a ∧ a ≤ 40000 ∧ Hid (a = h + cumI y k)) (fun _ i => (m - intOf i).toNat)
  case atStart => exact ⟨1, h, by omega, by omega, rfl, rfl, by omega, by omega, HC.out⟩
  case round =>
    obtain ⟨k, a, k0, k1, rfl, rfl, a0, a1, HA⟩ := hrel
    by_cases hk : k < m
    · have tk : decide (k < m) = true := by simpa using hk
      have H2 : Hid (∀ w, Calls Tryz.prog 28 #[.int .i64 y, .int .i64 k] w fun e w' => e = .returned (.int .i64 (lenI y k)) ∧ w' = w) := fun w => spec_len y k (by omega) w
      have HS : Hid (cumI y (k + 1) = cumI y k + lenI y k) := cum_step y k0 (by omega)
      have hl0 := len_ge y k
      have hl1 := len_le y k
      generalize lenI y k = L at *
      go_wp2_with fail
      refine (H2.out _).mono ?_
      rintro e w1 ⟨rfl, rfl⟩
      go_wp2_with fail
      go_round
      case rel =>
        have hb := HB.out (k + 1) (by omega) (by omega)
        have e1 := HS.out
        have e2 := HA.out
        exact ⟨k + 1, a + L, by omega, by omega, by go_num, by go_num, by omega, by omega, by rw [Hid, e1, e2]; omega⟩
      case measure => simp [intOf]; omega
    · have tk : decide (k < m) = false := by simpa using hk
      obtain rfl : k = m := by omega
      go_wp2_with fail
      go_ret
      refine ⟨?_, by repeat (first | exact Below.refl _ _ | refine Below.alloc ?_ (by simp) _)⟩
      rw [HN.out, ← HA.out]; rfl

set_option maxRecDepth 100000 in
set_option maxHeartbeats 4000000 in
theorem spec_dateOf (day : Int) (w : World) :
    Calls Tryz.prog 27 #[.int .i64 day] w fun e w' => e = .returned (dateV (dateOfB day)) ∧ Below w.heap.size w w' := by
  cases hr : dayRB day
  · have HR : Hid (dateOfB day = (0, 0, 0)) := by simp [Hid, dateOfB, hr]
    have H : Hid (dayRB day = false) := hr
    clear hr
    go_enter Tryz.func27, Tryz.ntmps27
    go_wp2_with fail
    refine (spec_dayRight _ _).mono ?_
    rintro e w1 ⟨rfl, rfl⟩
    rw [H.out]
    go_wp2_with fail
    refine bodyPost_ret (v := dateV (dateOfB day)) ?_ rfl ⟨rfl, ?_⟩
    · rw [HR.out]
      simp [results, Tryz.results27, go_sem, dateV]
    · repeat (first | exact Below.refl _ _ | refine Below.setCell ?_ (by simp) _ | refine Below.alloc ?_ (by simp) _)
  have HR : Hid (dateOfB day = dateB day) := by simp [Hid, dateOfB, hr]
  have H : Hid (dayRB day = true) := hr
  obtain ⟨d0, d1⟩ := (dayRB_iff day).1 hr
  clear hr
  have HH : Hid (∀ y, 2000 ≤ y → y ≤ 2100 → ∀ w, Calls Tryz.prog 44 #[.int .i64 y] w fun e w' => e = .returned (.int .i64 (headI y)) ∧ w' = w) := fun y a b w => spec_head y a (by omega) w
  go_enter Tryz.func27, Tryz.ntmps27
  go_wp2_with fail
  refine (spec_dayRight _ _).mono ?_
  rintro e w1 ⟨rfl, rfl⟩
  rw [H.out]
  go_wp2_with fail
  go_loop [3] (fun i => ∃ y : Int, 2000 ≤ y ∧ y ≤ 2099 ∧ i = .int .i64 y ∧ Hid (headI y ≤ day)) (fun i => (2100 - intOf i).toNat)
  case atStart => exact ⟨2000, by omega, by omega, rfl, by rw [Hid, show headI 2000 = 0 by decide]; exact d0⟩
  case round =>
    obtain ⟨y, y0, y1, rfl, HY⟩ := hrel
    have H1 := HH.out (y + 1) (by omega) (by omega)
    obtain ⟨h0, h1⟩ := head_bounds (y := y + 1) (by omega) (by omega)
    by_cases hle : headI (y + 1) ≤ day
    · have tl : decide (headI (y + 1) ≤ day) = true := by simpa using hle
      have HY2 : Hid (headI (y + 1) ≤ day) := hle
      have HY3 : Hid (y + 1 ≤ 2099) := by
        rcases (by omega : y < 2099 ∨ 2099 ≤ y) with h | h
        · rw [Hid]; omega
        · have : y = 2099 := by omega
          subst this
          rw [show headI (2099 + 1) = 36525 by decide] at hle
          omega
      generalize hE : headI (y + 1) = h at H1 tl h0 h1
      have H1 : Hid (∀ w, Calls Tryz.prog 44 #[.int .i64 (y + 1)] w fun e w' => e = .returned (.int .i64 h) ∧ w' = w) := H1
      clear hE hle
      go_wp2_with fail
      refine (H1.out _).mono ?_
      rintro e w1 ⟨rfl, rfl⟩
      go_wp2_with fail
      go_round
      case rel => exact ⟨y + 1, by omega, HY3.out, by go_num, HY2⟩
      case measure => simp [intOf]; omega
    · have tl : decide (headI (y + 1) ≤ day) = false := by simpa using hle
      have HY2 : Hid (day < headI (y + 1)) := by rw [Hid]; omega
      generalize hE : headI (y + 1) = h at H1 tl h0 h1
      have H1 : Hid (∀ w, Calls Tryz.prog 44 #[.int .i64 (y + 1)] w fun e w' => e = .returned (.int .i64 h) ∧ w' = w) := H1
      have H2 : Hid (∀ w, Calls Tryz.prog 44 #[.int .i64 y] w fun e w' => e = .returned (.int .i64 (headI y)) ∧ w' = w) := HH.out y (by omega) (by omega)
      obtain ⟨g0, g1⟩ := head_bounds (y := y) (by omega) (by omega)
      clear hE hle
      go_wp2_with fail
      refine (H1.out _).mono ?_
      rintro e w1 ⟨rfl, rfl⟩
      go_wp2_with fail
      refine (H2.out _).mono ?_
      rintro e w1 ⟨rfl, rfl⟩
      have HT : Hid (day - headI y < cumI y 13) := by
        have := HY2.out
        rw [head_step y0] at this
        rw [Hid]; omega
      have HY' := HY.out
      have HX : Hid (∀ m r : Int, 1 ≤ m → m ≤ 12 → 0 ≤ r → r < lenI y m → r = day - headI y - cumI y m → dateB day = (y, m, r + 1)) := fun m r a b c d e => dateB_eq ⟨y0, y1, a, b, by omega, by omega, by omega⟩
      generalize headI y = g at *
      go_wp2_with fail
      go_loop [4, 5] (fun x i => ∃ r m : Int, 1 ≤ m ∧ m ≤ 12 ∧ 0 ≤ r ∧ r ≤ 40000 ∧ x = .int .i64 r ∧ i = .int .i64 m ∧ Hid (r = day - g - cumI y m)) (fun _ i => (13 - intOf i).toNat)
      case atStart => exact ⟨day - g, 1, by omega, by omega, by omega, by omega, by go_num, rfl, by rw [Hid, cum_one]; omega⟩
      case round =>
        obtain ⟨r, m, m0, m1, r0, r1, rfl, rfl, HA⟩ := hrel
        have H3 : Hid (∀ w, Calls Tryz.prog 28 #[.int .i64 y, .int .i64 m] w fun e w' => e = .returned (.int .i64 (lenI y m)) ∧ w' = w) := fun w => spec_len y m (by omega) w
        have hl0 := len_ge y m
        have hl1 := len_le y m
        have HX2 := HX.out m r m0 m1 r0
        have HS : Hid (cumI y (m + 1) = cumI y m + lenI y m) := cum_step y m0 m1
        by_cases hle : lenI y m ≤ r
        · have tl : decide (lenI y m ≤ r) = true := by simpa using hle
          have HM : Hid (m + 1 ≤ 12) := by
            rcases (by omega : m < 12 ∨ 12 ≤ m) with h | h
            · rw [Hid]; omega
            · obtain rfl : m = 12 := by omega
              have a := HT.out
              have b := HS.out
              have c := HA.out
              simp only [show (12 : Int) + 1 = 13 by decide] at b
              omega
          clear HX2
          generalize lenI y m = L at *
          go_wp2_with fail
          refine (H3.out _).mono ?_
          rintro e w1 ⟨rfl, rfl⟩
          go_wp2_with fail
          refine (H3.out _).mono ?_
          rintro e w1 ⟨rfl, rfl⟩
          go_wp2_with fail
          go_round
          case rel =>
            have a := HS.out
            have b := HA.out
            exact ⟨r - L, m + 1, by omega, HM.out, by omega, by omega, by go_num, by go_num, by rw [Hid, a]; omega⟩
          case measure => simp [intOf]; omega
        · have tl : decide (lenI y m ≤ r) = false := by simpa using hle
          have HE : Hid (dateB day = (y, m, r + 1)) := HX2 (by omega) HA.out
          clear HX2
          generalize lenI y m = L at *
          go_wp2_with fail
          refine (H3.out _).mono ?_
          rintro e w1 ⟨rfl, rfl⟩
          go_wp2_with fail
          refine bodyPost_ret (v := dateV (dateOfB day)) ?_ rfl ⟨rfl, ?_⟩
          · rw [HR.out, HE.out]
            simp [results, Tryz.results27, go_sem, dateV]
          · repeat (first | exact Below.refl _ _ | refine Below.setCell ?_ (by simp) _ | refine Below.alloc ?_ (by simp) _)
end Go.Proofs.YtnefcldjigndgaaGreatDoor
