/- Interest of the model: what the call does. -/
import Derived.Test.YtnefcldjigndgaaGreatDoorInt
namespace Go.Proofs.YtnefcldjigndgaaGreatDoor
open Go.RowKit

set_option maxRecDepth 100000 in
set_option maxHeartbeats 4000000 in
theorem spec_interest (bal rate basis a b : Int) (w : World) :
    Calls Tryz.prog 10 #[.int .i64 bal, .int .i64 rate, .int .i64 basis, .int .i64 a, .int .i64 b] w fun e w' => e = .returned (moneyV (interestB bal rate basis a b)) ∧ Below w.heap.size w w' := by
  cases hb : rightB bal
  · have HR : Hid (interestB bal rate basis a b = (0, 1)) := by
      rw [Hid, interestB, if_neg]
      intro h
      rw [(rightB_iff bal).2 (by omega)] at hb
      cases hb
    have H : Hid (rightB bal = false) := hb
    clear hb
    go_enter Tryz.func10, Tryz.ntmps10
    go_wp2_with fail
    refine (spec_right _ _).mono ?_
    rintro e w0 ⟨rfl, hw0⟩
    rw [hw0, H.out]
    clear hw0
    go_wp2_with fail
    refine bodyPost_ret (v := moneyV (interestB bal rate basis a b)) ?_ rfl ⟨rfl, ?_⟩
    · rw [HR.out]
      simp [results, Tryz.results10, go_sem, moneyV]
    · repeat (first | exact Below.refl _ _ | refine Below.setCell ?_ (by simp) _ | refine Below.alloc ?_ (by simp) _)
  have b1 := ((rightB_iff bal).1 hb).2
  have H : Hid (rightB bal = true) := hb
  clear hb
  by_cases c0 : bal < 0
  · have t0 : decide (bal < 0) = true := by simpa using c0
    have HR : Hid (interestB bal rate basis a b = (0, 1)) := by rw [Hid, interestB, if_neg]; omega
    go_enter Tryz.func10, Tryz.ntmps10
    go_wp2_with fail
    refine (spec_right _ _).mono ?_
    rintro e w0 ⟨rfl, hw0⟩
    rw [hw0, H.out]
    clear hw0
    go_wp2_with fail
    refine bodyPost_ret (v := moneyV (interestB bal rate basis a b)) ?_ rfl ⟨rfl, ?_⟩
    · rw [HR.out]
      simp [results, Tryz.results10, go_sem, moneyV]
    · repeat (first | exact Below.refl _ _ | refine Below.setCell ?_ (by simp) _ | refine Below.alloc ?_ (by simp) _)
  have t0 : decide (bal < 0) = false := by simpa using c0
  cases hr : rateB rate
  · have HR : Hid (interestB bal rate basis a b = (0, 1)) := by rw [Hid, interestB, if_neg]; simp [hr]
    have H' : Hid (rateB rate = false) := hr
    clear hr
    go_enter Tryz.func10, Tryz.ntmps10
    go_wp2_with fail
    refine (spec_right _ _).mono ?_
    rintro e w0 ⟨rfl, hw0⟩
    rw [hw0, H.out]
    clear hw0
    go_wp2_with fail
    refine (spec_rateB _ _).mono ?_
    rintro e w0 ⟨rfl, hw0⟩
    rw [hw0, H'.out]
    clear hw0
    go_wp2_with fail
    refine bodyPost_ret (v := moneyV (interestB bal rate basis a b)) ?_ rfl ⟨rfl, ?_⟩
    · rw [HR.out]
      simp [results, Tryz.results10, go_sem, moneyV]
    · repeat (first | exact Below.refl _ _ | refine Below.setCell ?_ (by simp) _ | refine Below.alloc ?_ (by simp) _)
  have hrr : 0 ≤ rate ∧ rate ≤ 1000000 := by simpa [rateB] using hr
  obtain ⟨r0, r1⟩ := hrr
  have HR : Hid (interestB bal rate basis a b = if (spanB basis a b).2 = 0 then mulDivB bal (rate * (spanB basis a b).1) (1000000 * yearI basis) else (0, (spanB basis a b).2)) := by rw [Hid, interestB, if_pos ⟨by omega, by omega, hr⟩]
  have H' : Hid (rateB rate = true) := hr
  have H1 : Hid (∀ w, Calls Tryz.prog 22 #[.int .i64 basis, .int .i64 a, .int .i64 b] w fun e w' => e = .returned (moneyV (spanB basis a b)) ∧ Below w.heap.size w w') := fun w => spec_span basis a b w
  have hsb := span_le (basis := basis) (a := a) (b := b)
  clear hr
  generalize spanB basis a b = s at *
  obtain ⟨x, c⟩ := s
  simp only [moneyV] at HR hsb H1
  by_cases hc : c = 0
  case neg =>
    have t1 : (c != 0) = true := by rw [bne_iff_ne]; exact hc
    rw [if_neg hc] at HR
    clear hsb hc
    go_enter Tryz.func10, Tryz.ntmps10
    go_wp2_with fail
    refine (spec_right _ _).mono ?_
    rintro e w0 ⟨rfl, hw0⟩
    rw [hw0, H.out]
    clear hw0
    go_wp2_with fail
    refine (spec_rateB _ _).mono ?_
    rintro e w0 ⟨rfl, hw0⟩
    rw [hw0, H'.out]
    clear hw0
    go_wp2_with fail
    refine (H1.out _).mono ?_
    rintro e w2 ⟨rfl, hb2⟩
    have hs2 : w.heap.size < w2.heap.size := by have := hb2.size; simp at this; omega
    have r2 : ∀ j, w2.cell? ⟨w.heap.size, j, none⟩ = (#[Value.int .i64 0, .int .i64 0] : Array Value)[j]? := fun j => by
      rw [hb2.cell (p := ⟨w.heap.size, j, none⟩) (by simp), World.cell?_alloc_new]
    have f2 : ∀ j, w2.frozen? ⟨w.heap.size, j, none⟩ = false := fun j => by
      rw [hb2.frozen (p := ⟨w.heap.size, j, none⟩) (by simp), World.frozen?_alloc_new]
    have HB2 : Hid (Below w.heap.size w w2) := ((Below.refl _ _).alloc (Nat.le_refl _) _).trans (hb2.mono (by simp))
    clear hb2
    go_wp2_with fail
    refine bodyPost_ret (v := moneyV (interestB bal rate basis a b)) ?_ rfl ⟨rfl, ?_⟩
    · rw [HR.out]
      simp [results, Tryz.results10, go_sem, r2, hs2, moneyV]
    · repeat (first | exact HB2.out | refine Below.setCell ?_ (by simp) _ | refine Below.alloc ?_ (by first | omega | (simp [World.setCell]; omega)) _)
  subst hc
  obtain ⟨x0, x1⟩ := hsb rfl
  rw [if_pos rfl] at HR
  have hpb : 0 ≤ rate * x ∧ rate * x ≤ 36600000000 := by
    refine ⟨Int.mul_nonneg r0 x0, ?_⟩
    have h1 := Int.mul_le_mul r1 x1 x0 (by omega)
    omega
  obtain ⟨P, hP⟩ : ∃ P, rate * x = P := ⟨_, rfl⟩
  rw [hP] at HR hpb
  obtain ⟨p0, p1⟩ := hpb
  have hyb : 360 ≤ yearI basis ∧ yearI basis ≤ 365 := by unfold yearI; split <;> omega
  have H2 : Hid (∀ w, Calls Tryz.prog 23 #[.int .i64 basis] w fun e w' => e = .returned (.int .i64 (yearI basis)) ∧ w' = w) := fun w => spec_year basis w
  generalize yearI basis = Y at *
  obtain ⟨Y0, Y1⟩ := hyb
  have H3 : Hid (∀ w, Calls Tryz.prog 16 #[.int .i64 bal, .int .i64 P, .int .i64 (1000000 * Y)] w fun e w' => e = .returned (moneyV (mulDivB bal P (1000000 * Y))) ∧ Below w.heap.size w w') := fun w => spec_mulDiv bal P (1000000 * Y) w
  generalize mulDivB bal P (1000000 * Y) = R at *
  have wr1 : IntKind.i64.wrap P = P := IntWalk.i64_in P (by omega)
  have wr2 : IntKind.i64.wrap (1000000 * Y) = 1000000 * Y := IntWalk.i64_in _ (by omega)
  obtain ⟨rn, rc⟩ := R
  simp only [moneyV] at H3
  clear hsb
  go_enter Tryz.func10, Tryz.ntmps10
  go_wp2_with fail
  refine (spec_right _ _).mono ?_
  rintro e w0 ⟨rfl, hw0⟩
  rw [hw0, H.out]
  clear hw0
  go_wp2_with fail
  refine (spec_rateB _ _).mono ?_
  rintro e w0 ⟨rfl, hw0⟩
  rw [hw0, H'.out]
  clear hw0
  go_wp2_with fail
  refine (H1.out _).mono ?_
  rintro e w2 ⟨rfl, hb2⟩
  have hs2 : w.heap.size < w2.heap.size := by have := hb2.size; simp at this; omega
  have r2 : ∀ j, w2.cell? ⟨w.heap.size, j, none⟩ = (#[Value.int .i64 0, .int .i64 0] : Array Value)[j]? := fun j => by
    rw [hb2.cell (p := ⟨w.heap.size, j, none⟩) (by simp), World.cell?_alloc_new]
  have f2 : ∀ j, w2.frozen? ⟨w.heap.size, j, none⟩ = false := fun j => by
    rw [hb2.frozen (p := ⟨w.heap.size, j, none⟩) (by simp), World.frozen?_alloc_new]
  have HB2 : Hid (Below w.heap.size w w2) := ((Below.refl _ _).alloc (Nat.le_refl _) _).trans (hb2.mono (by simp))
  clear hb2
  go_wp2_with fail
  clear H H' H1
  go_region_with (first | (go_at_call 23; refine (H2.out _).mono ?_; rintro e w3 ⟨rfl, rfl⟩) | (go_at_call 16; refine (H3.out _).mono ?_; rintro e w4 ⟨rfl, hb4⟩; have r4 := int4 hb4 hs2 r2; have f4 := fro4 hb4 hs2 f2))
  all_goals
    have HB4 : Hid (Below w.heap.size w w4) := ((HB2.out.alloc HB2.out.size _).drew).trans (hb4.mono (by have := HB2.out.size; simp; omega))
    clear hb4 r2 f2
    go_wp2_with fail
    refine bodyPost_ret (v := moneyV (interestB bal rate basis a b)) ?_ rfl ⟨rfl, ?_⟩
    · rw [HR.out]
      simp [results, Tryz.results10, go_sem, r4, moneyV]
    · repeat (first | exact HB4.out | refine Below.setCell ?_ (by simp) _)

end Go.Proofs.YtnefcldjigndgaaGreatDoor
