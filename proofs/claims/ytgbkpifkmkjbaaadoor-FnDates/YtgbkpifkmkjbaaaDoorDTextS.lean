/- DateText, of the model: what the call does. -/
import Derived.Test.YtgbkpifkmkjbaaaDoorDText
namespace Go.Proofs.YtgbkpifkmkjbaaaDoor
open Go.RowKit
open Go.Lib (decDigits)

set_option maxRecDepth 100000 in
set_option maxHeartbeats 40000000 in
theorem spec_dateText (day : Int) (w : World) :
    Calls Tryd.prog 82 #[.int .i64 day] w fun e w' => e = .returned (.string (strB (dateT day))) ∧ Below w.heap.size w w' := by
  cases hr : dayRB day
  · have HR : Hid (dateT day = []) := by simp [Hid, dateT, hr]
    have H : Hid (dayRB day = false) := hr
    clear hr
    go_enter Tryd.func82, Tryd.ntmps82
    go_wp2_with fail
    refine (spec_dayRight _ _).mono ?_
    rintro e w0 ⟨rfl, hw0⟩
    rw [hw0, H.out]
    clear hw0
    go_wp2_with fail
    go_ret
    exact ⟨by rw [HR.out]; rfl, Below.refl _ _⟩
  have H : Hid (dayRB day = true) := hr
  obtain ⟨d0, d1⟩ := (dayRB_iff day).1 hr
  have hI := dateB_is d0 d1
  have HR : Hid (dateT day = dtN (dateB day).1.toNat (dateB day).2.1.toNat (dateB day).2.2.toNat) := by simp [Hid, dateT, hr]
  have H1 : Hid (∀ w, Calls Tryd.prog 34 #[.int .i64 day] w fun e w' => e = .returned (dateV (dateB day)) ∧ Below w.heap.size w w') := fun w => by
    have := spec_dateOf day w
    rw [dateOfB, if_pos hr] at this
    exact this
  clear hr
  generalize dateB day = D at *
  obtain ⟨y, m, d⟩ := D
  simp only [dateV] at HR H1 hI
  have y0 := hI.y0
  have y1 := hI.y1
  have m0 := hI.m0
  have m1 := hI.m1
  have e0 := hI.d0
  have e1 : d ≤ 31 := by have := hI.d1; have := len_le y m; omega
  clear hI
  obtain ⟨Y, rfl⟩ : ∃ Y : Nat, y = Y := ⟨y.toNat, by omega⟩
  obtain ⟨M, rfl⟩ : ∃ M : Nat, m = M := ⟨m.toNat, by omega⟩
  obtain ⟨E, rfl⟩ : ∃ E : Nat, d = E := ⟨d.toNat, by omega⟩
  simp only [Int.toNat_natCast] at HR
  have hs0 := dec_fits Y (by omega)
  have hs1 := pad_fits 2 M (by omega) (by omega)
  have hs2 := pad_fits 2 E (by omega) (by omega)
  have K0 : Hid (∀ w, Calls Tryd.prog 60 #[.int .i64 Y] w fun e w' => e = .returned (.string (strB (decDigits Y))) ∧ Below w.heap.size w w') := fun w => spec_decI Y Y rfl (by omega) w
  have K1 : Hid (∀ w, Calls Tryd.prog 61 #[.int .i64 M, .int .i64 2] w fun e w' => e = .returned (.string (strB (padN 2 (decDigits M)))) ∧ Below w.heap.size w w') := fun w => spec_digitsI M 2 M 2 rfl rfl (by omega) (by omega) w
  have K2 : Hid (∀ w, Calls Tryd.prog 61 #[.int .i64 E, .int .i64 2] w fun e w' => e = .returned (.string (strB (padN 2 (decDigits E)))) ∧ Below w.heap.size w w') := fun w => spec_digitsI E 2 E 2 rfl rfl (by omega) (by omega) w
  have HF : Hid (strB (decDigits Y) ++ { data := #[45] } ++ strB (padN 2 (decDigits M)) ++ { data := #[45] } ++ strB (padN 2 (decDigits E)) = strB (dtN Y M E)) := str_date _ _ _
  generalize strB (decDigits Y) = S0 at *
  generalize strB (padN 2 (decDigits M)) = S1 at *
  generalize strB (padN 2 (decDigits E)) = S2 at *
  clear y0 y1 m0 m1 e0 e1
  have k1c : ¬ 9223372036854775807 < S0.size + 1 := by omega
  have k2c : ¬ 9223372036854775807 < S0.size + 1 + S1.size := by omega
  have k3c : ¬ 9223372036854775807 < S0.size + 1 + S1.size + 1 := by omega
  have k4c : ¬ 9223372036854775807 < S0.size + 1 + S1.size + 1 + S2.size := by omega
  go_enter Tryd.func82, Tryd.ntmps82
  go_wp2_with fail
  refine (spec_dayRight _ _).mono ?_
  rintro e w0 ⟨rfl, hw0⟩
  rw [hw0, H.out]
  clear hw0
  go_wp2_with fail
  refine (H1.out _).mono ?_
  rintro e w2 ⟨rfl, hb2⟩
  have HB2 : Hid (Below w.heap.size w w2) := hb2
  clear hb2
  clear H H1 d0 d1
  go_wp2_with fail
  go_region_with (first | (go_at_call 60; refine (K0.out _).mono ?_; rintro e w3 ⟨rfl, hb3⟩; obtain ⟨z3, x1, x2⟩ := read3 hb3) | (go_at_call_of 61 (M : Int); refine (K1.out _).mono ?_; rintro e w4 ⟨rfl, hb4⟩; have x3 := read4 hb4 z3 x2) | (go_at_call_of 61 (E : Int); refine (K2.out _).mono ?_; rintro e w5 ⟨rfl, hb5⟩))
  all_goals
    have HB5 : Hid (Below w.heap.size w w5) := by
      have b3 : Below w.heap.size w w3 := (((HB2.out.alloc HB2.out.size _).drew)).trans (hb3.mono (by have := HB2.out.size; simp; omega))
      have b4 := b3.trans (hb4.mono b3.size)
      exact b4.trans (hb5.mono b4.size)
    clear hb3 hb4 hb5
    go_wp2_with fail
    go_ret
    refine ⟨?_, HB5.out⟩
    rw [HR.out, ← HF.out]
    first | rfl | kernel_rfl

end Go.Proofs.YtgbkpifkmkjbaaaDoor
