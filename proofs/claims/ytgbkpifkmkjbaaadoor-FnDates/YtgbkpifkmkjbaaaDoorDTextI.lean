/- DateText, of the program: what the call does. -/
import Derived.Test.YtgbkpifkmkjbaaaDoorDText
namespace Go.Proofs.YtgbkpifkmkjbaaaDoor
open Go.RowKit
open Go.Lib (decDigits)

set_option maxRecDepth 100000 in
set_option maxHeartbeats 40000000 in
theorem impl_dateText (day : Int) (w : World) (hM : Mon w) (hT : Tab w) :
    Calls Tryd.prog 37 #[.int .i64 day] w fun e w' => e = .returned (.string (strB (dateT day))) ∧ Below w.heap.size w w' := by
  have hmm := @run_makeMap Tryd.prog
  have hlt := hM.lt
  have HM : Hid (Mon w) := hM
  have HT : Hid (Tab w) := hT
  clear hM hT
  cases hr : dayRB day
  · have HR : Hid (dateT day = []) := by simp [Hid, dateT, hr]
    have H : Hid (dayRB day = false) := hr
    clear hr
    go_enter Tryd.func37, Tryd.ntmps37
    go_wp2_with fail
    refine (impl_dayRight _ _).mono ?_
    rintro e w0 ⟨rfl, hw0⟩
    rw [hw0, H.out]
    clear hw0
    go_wp2_with fail
    go_ret
    exact ⟨by rw [HR.out]; rfl, Below.refl _ _⟩
  have H : Hid (dayRB day = true) := hr
  obtain ⟨d0, d1⟩ := (dayRB_iff day).1 hr
  have hI := dateB_is d0 d1
  have HR : Hid (dateT day = dtN (dateB day).1.toNat (dateB day).2.1.toNat (dateB day).2.2.toNat) := by simp [Hid, dateT, hr]
  have H1 : Hid (∀ b w, Cal w b 0 → Mon w → 2 ≠ b → Calls Tryd.prog 73 #[.map (some b), .int .i64 day] w fun e w' => e = .returned (dateV (dateB day)) ∧ Cal w' b (0 + 2) ∧ w.grownBy w' (some b)) := fun b w hC hM hG => impl_date day d0 d1 b 0 (by omega) w hC hM hG
  clear hr
  generalize dateB day = D at *
  obtain ⟨y, m, d⟩ := D
  simp only [dateV] at HR H1 hI
  have y0 := hI.y0
  have y1 := hI.y1
  have m0 := hI.m0
  have m1 := hI.m1
  have e0 := hI.d0
  have e1 : d ≤ 31 := by have := hI.d1; have := len_le y m; omega
  clear hI
  obtain ⟨Y, rfl⟩ : ∃ Y : Nat, y = Y := ⟨y.toNat, by omega⟩
  obtain ⟨M, rfl⟩ : ∃ M : Nat, m = M := ⟨m.toNat, by omega⟩
  obtain ⟨E, rfl⟩ : ∃ E : Nat, d = E := ⟨d.toNat, by omega⟩
  simp only [Int.toNat_natCast] at HR
  have hs0 := dec_fits Y (by omega)
  have hs1 := pad_fits 2 M (by omega) (by omega)
  have hs2 := pad_fits 2 E (by omega) (by omega)
  have K0 : Hid (∀ w, Tab w → Calls Tryd.prog 80 #[.int .i64 Y, .int .i64 10] w fun e w' => e = .returned (.string (strB (decDigits Y))) ∧ Below w.heap.size w w') := fun w h => dec_any Y (by omega) w h
  have K1 : Hid (∀ w, Tab w → Calls Tryd.prog 81 #[.int .i64 M] w fun e w' => e = .returned (.string (strB (padN 2 (decDigits M)))) ∧ Below w.heap.size w w') := fun w h => impl_two M (by omega) w h
  have K2 : Hid (∀ w, Tab w → Calls Tryd.prog 81 #[.int .i64 E] w fun e w' => e = .returned (.string (strB (padN 2 (decDigits E)))) ∧ Below w.heap.size w w') := fun w h => impl_two E (by omega) w h
  have HF : Hid (strB (decDigits Y) ++ { data := #[45] } ++ strB (padN 2 (decDigits M)) ++ { data := #[45] } ++ strB (padN 2 (decDigits E)) = strB (dtN Y M E)) := str_date _ _ _
  generalize strB (decDigits Y) = S0 at *
  generalize strB (padN 2 (decDigits M)) = S1 at *
  generalize strB (padN 2 (decDigits E)) = S2 at *
  clear y0 y1 m0 m1 e0 e1
  have k1c : ¬ 9223372036854775807 < S0.size + 1 := by omega
  have k2c : ¬ 9223372036854775807 < S0.size + 1 + S1.size := by omega
  have k3c : ¬ 9223372036854775807 < S0.size + 1 + S1.size + 1 := by omega
  have k4c : ¬ 9223372036854775807 < S0.size + 1 + S1.size + 1 + S2.size := by omega
  go_enter Tryd.func37, Tryd.ntmps37
  go_wp2_with fail
  refine (impl_dayRight _ _).mono ?_
  rintro e w0 ⟨rfl, hw0⟩
  rw [hw0, H.out]
  clear hw0
  go_wp2_with fail
  refine (H1.out _ _ (Cal.new rfl) (by exact HM.out.alloc _) (by omega)).mono ?_
  rintro e w2 ⟨rfl, _, hg2⟩
  have HB2 : Hid (Below w.heap.size w w2) := Below.grown ((Below.refl _ _).alloc (Nat.le_refl _) _) hg2 (by simp) (fun k hk => by cases hk; exact Nat.le_refl _)
  have HT2 : Hid (Tab (w2.alloc (.cells #[.int .i64 Y, .int .i64 M, .int .i64 E] 39))) := HT.out.below (HB2.out.alloc HB2.out.size _)
  clear hg2
  clear H H1 d0 d1
  go_wp2_with fail
  go_region_with (first | (go_at_call 80; refine (K0.out _ (by exact HT2.out)).mono ?_; rintro e w3 ⟨rfl, hb3⟩; have HT3 : Hid (Tab w3) := tab_drew HT2.out hb3; obtain ⟨z3, x1, x2⟩ := read3 hb3) | (go_at_call_of 81 (M : Int); refine (K1.out _ (by exact HT3.out)).mono ?_; rintro e w4 ⟨rfl, hb4⟩; have HT4 : Hid (Tab w4) := HT3.out.below hb4; have x3 := read4 hb4 z3 x2) | (go_at_call_of 81 (E : Int); refine (K2.out _ (by exact HT4.out)).mono ?_; rintro e w5 ⟨rfl, hb5⟩))
  all_goals
    have HB5 : Hid (Below w.heap.size w w5) := by
      have b3 : Below w.heap.size w w3 := (((HB2.out.alloc HB2.out.size _).drew)).trans (hb3.mono (by have := HB2.out.size; simp; omega))
      have b4 := b3.trans (hb4.mono b3.size)
      exact b4.trans (hb5.mono b4.size)
    clear hb3 hb4 hb5
    go_wp2_with fail
    go_ret
    refine ⟨?_, HB5.out⟩
    rw [HR.out, ← HF.out]
    first | rfl | kernel_rfl

end Go.Proofs.YtgbkpifkmkjbaaaDoor
