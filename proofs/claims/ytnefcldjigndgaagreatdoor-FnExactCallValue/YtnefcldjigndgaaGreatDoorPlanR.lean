/- LoanRight, of the program and of its model: what each call does. -/
import Derived.Test.YtnefcldjigndgaaGreatDoorPlanFacts
import Derived.Test.YtnefcldjigndgaaGreatDoorDayAddI
import Derived.Test.YtnefcldjigndgaaGreatDoorIntS
namespace Go.Proofs.YtnefcldjigndgaaGreatDoor
open Go.RowKit

theorem loanB_no {p r b s t : Int} (h : ¬ LoanOk p r b s t) : loanB p r b s t = false := by
  cases hl : loanB p r b s t
  · rfl
  · exact absurd ((loanB_iff p r b s t).1 hl) h

set_option maxRecDepth 100000 in
set_option maxHeartbeats 4000000 in
theorem impl_loanRight (p r b s t : Int) (w : World) (hM : Mon w) :
    Calls Tryz.prog 52 #[.agg #[.int .i64 p, .int .i64 r, .int .i64 b, .int .i64 s, .int .i64 t]] w fun e w' => e = .returned (.bool (loanB p r b s t)) ∧ Below w.heap.size w w' := by
  have HM : Hid (Mon w) := hM
  clear hM
  by_cases c1 : p < 1
  · have t1 : decide (p < 1) = true := by simpa using c1
    have HR : Hid (loanB p r b s t = false) := loanB_no fun h => by have := h.p0; omega
    go_enter Tryz.func52, Tryz.ntmps52
    go_wp2_with fail
    go_ret
    exact ⟨by rw [HR.out]; rfl, by repeat (first | exact Below.refl _ _ | refine Below.alloc ?_ (by simp) _)⟩
  have t1 : decide (p < 1) = false := by simpa using c1
  by_cases c2 : 10000000000 < p
  · have t2 : decide (10000000000 < p) = true := by simpa using c2
    have HR : Hid (loanB p r b s t = false) := loanB_no fun h => by have := h.p1; omega
    go_enter Tryz.func52, Tryz.ntmps52
    go_wp2_with fail
    go_ret
    exact ⟨by rw [HR.out]; rfl, by repeat (first | exact Below.refl _ _ | refine Below.alloc ?_ (by simp) _)⟩
  have t2 : decide (10000000000 < p) = false := by simpa using c2
  by_cases c3 : r < 0
  · have t3 : decide (r < 0) = true := by simpa using c3
    have HR : Hid (loanB p r b s t = false) := loanB_no fun h => by have := h.r0; omega
    go_enter Tryz.func52, Tryz.ntmps52
    go_wp2_with fail
    go_ret
    exact ⟨by rw [HR.out]; rfl, by repeat (first | exact Below.refl _ _ | refine Below.alloc ?_ (by simp) _)⟩
  have t3 : decide (r < 0) = false := by simpa using c3
  by_cases c4 : 500000 < r
  · have t4 : decide (500000 < r) = true := by simpa using c4
    have HR : Hid (loanB p r b s t = false) := loanB_no fun h => by have := h.r1; omega
    go_enter Tryz.func52, Tryz.ntmps52
    go_wp2_with fail
    go_ret
    exact ⟨by rw [HR.out]; rfl, by repeat (first | exact Below.refl _ _ | refine Below.alloc ?_ (by simp) _)⟩
  have t4 : decide (500000 < r) = false := by simpa using c4
  cases h5 : basisB b
  · have HR : Hid (loanB p r b s t = false) := loanB_no fun h => by
      have hh : basisB b = true := (basisB_iff b).2 ⟨h.b0, h.b1⟩
      rw [h5] at hh
      cases hh
    have H5 : Hid (basisB b = false) := h5
    clear h5
    go_enter Tryz.func52, Tryz.ntmps52
    go_wp2_with fail
    refine (impl_basisRight _ _).mono ?_
    rintro e w0 ⟨rfl, hw0⟩
    rw [hw0, H5.out]
    clear hw0
    go_wp2_with fail
    go_ret
    exact ⟨by rw [HR.out]; rfl, by repeat (first | exact Below.refl _ _ | refine Below.alloc ?_ (by simp) _)⟩
  have H5 : Hid (basisB b = true) := h5
  by_cases c6 : t < 1
  · have t6 : decide (t < 1) = true := by simpa using c6
    have HR : Hid (loanB p r b s t = false) := loanB_no fun h => by have := h.t0; omega
    go_enter Tryz.func52, Tryz.ntmps52
    go_wp2_with fail
    refine (impl_basisRight _ _).mono ?_
    rintro e w0 ⟨rfl, hw0⟩
    rw [hw0, H5.out]
    clear hw0
    go_wp2_with fail
    go_ret
    exact ⟨by rw [HR.out]; rfl, by repeat (first | exact Below.refl _ _ | refine Below.alloc ?_ (by simp) _)⟩
  have t6 : decide (t < 1) = false := by simpa using c6
  by_cases c7 : 60 < t
  · have t7 : decide (60 < t) = true := by simpa using c7
    have HR : Hid (loanB p r b s t = false) := loanB_no fun h => by have := h.t1; omega
    go_enter Tryz.func52, Tryz.ntmps52
    go_wp2_with fail
    refine (impl_basisRight _ _).mono ?_
    rintro e w0 ⟨rfl, hw0⟩
    rw [hw0, H5.out]
    clear hw0
    go_wp2_with fail
    go_ret
    exact ⟨by rw [HR.out]; rfl, by repeat (first | exact Below.refl _ _ | refine Below.alloc ?_ (by simp) _)⟩
  have t7 : decide (60 < t) = false := by simpa using c7
  have b0 := (basisB_iff b).1 h5
  clear h5
  have H9 : Hid (∀ w, Mon w → Calls Tryz.prog 39 #[.int .i64 s, .int .i64 t] w fun e w' => e = .returned (tupV (dayAddB s t)) ∧ Below w.heap.size w w') := fun w h => impl_addMonths s t w h
  by_cases hd : (dayAddB s t).2 = 0
  · have HR : Hid (loanB p r b s t = true) := (loanB_iff p r b s t).2 ⟨by omega, by omega, by omega, by omega, b0.1, b0.2, by omega, by omega, hd⟩
    rw [dayAdd_pair hd, tupV_ok] at H9
    generalize (dayAddB s t).1 = N at H9
    clear hd
    go_enter Tryz.func52, Tryz.ntmps52
    go_wp2_with fail
    refine (impl_basisRight _ _).mono ?_
    rintro e w0 ⟨rfl, hw0⟩
    rw [hw0, H5.out]
    clear hw0
    go_wp2_with fail
    refine (H9.out _ (by exact HM.out.alloc _)).mono ?_
    rintro e w1 ⟨rfl, hb1⟩
    have HB : Hid (Below w.heap.size w w1) := ((Below.refl _ _).alloc (Nat.le_refl _) _).trans (hb1.mono (by simp))
    clear hb1
    go_wp2_with fail
    go_ret
    exact ⟨by rw [HR.out]; rfl, HB.out⟩
  · have HR : Hid (loanB p r b s t = false) := loanB_no fun h => hd h.d
    obtain ⟨N, c, hc, e9⟩ : ∃ N c : Int, c ≠ 0 ∧ dayAddB s t = (N, c) := ⟨_, _, hd, rfl⟩
    rw [e9, tupV_err _ _ hc] at H9
    clear hd e9
    go_enter Tryz.func52, Tryz.ntmps52
    go_wp2_with fail
    refine (impl_basisRight _ _).mono ?_
    rintro e w0 ⟨rfl, hw0⟩
    rw [hw0, H5.out]
    clear hw0
    go_wp2_with fail
    refine (H9.out _ (by exact HM.out.alloc _)).mono ?_
    rintro e w1 ⟨rfl, hb1⟩
    have HB : Hid (Below w.heap.size w w1) := ((Below.refl _ _).alloc (Nat.le_refl _) _).trans (hb1.mono (by simp))
    clear hb1
    go_wp2_with fail
    go_ret
    exact ⟨by rw [HR.out]; rfl, HB.out⟩

set_option maxRecDepth 100000 in
set_option maxHeartbeats 4000000 in
theorem spec_loanRight (p r b s t : Int) (w : World) :
    Calls Tryz.prog 24 #[.agg #[.int .i64 p, .int .i64 r, .int .i64 b, .int .i64 s, .int .i64 t]] w fun e w' => e = .returned (.bool (loanB p r b s t)) ∧ Below w.heap.size w w' := by
  by_cases c1 : 1 ≤ p
  case neg =>
    have t1 : decide (1 ≤ p) = false := by simpa using c1
    have HR : Hid (loanB p r b s t = false) := loanB_no fun h => by have := h.p0; omega
    go_enter Tryz.func24, Tryz.ntmps24
    go_wp2_with fail
    go_ret
    exact ⟨by rw [HR.out]; rfl, by repeat (first | exact Below.refl _ _ | refine Below.alloc ?_ (by simp) _)⟩
  have t1 : decide (1 ≤ p) = true := by simpa using c1
  by_cases c2 : p ≤ 10000000000
  case neg =>
    have t2 : decide (p ≤ 10000000000) = false := by simpa using c2
    have HR : Hid (loanB p r b s t = false) := loanB_no fun h => by have := h.p1; omega
    go_enter Tryz.func24, Tryz.ntmps24
    go_wp2_with fail
    go_ret
    exact ⟨by rw [HR.out]; rfl, by repeat (first | exact Below.refl _ _ | refine Below.alloc ?_ (by simp) _)⟩
  have t2 : decide (p ≤ 10000000000) = true := by simpa using c2
  by_cases c3 : 0 ≤ r
  case neg =>
    have t3 : decide (0 ≤ r) = false := by simpa using c3
    have HR : Hid (loanB p r b s t = false) := loanB_no fun h => by have := h.r0; omega
    go_enter Tryz.func24, Tryz.ntmps24
    go_wp2_with fail
    go_ret
    exact ⟨by rw [HR.out]; rfl, by repeat (first | exact Below.refl _ _ | refine Below.alloc ?_ (by simp) _)⟩
  have t3 : decide (0 ≤ r) = true := by simpa using c3
  by_cases c4 : r ≤ 500000
  case neg =>
    have t4 : decide (r ≤ 500000) = false := by simpa using c4
    have HR : Hid (loanB p r b s t = false) := loanB_no fun h => by have := h.r1; omega
    go_enter Tryz.func24, Tryz.ntmps24
    go_wp2_with fail
    go_ret
    exact ⟨by rw [HR.out]; rfl, by repeat (first | exact Below.refl _ _ | refine Below.alloc ?_ (by simp) _)⟩
  have t4 : decide (r ≤ 500000) = true := by simpa using c4
  by_cases c5 : 1 ≤ b
  case neg =>
    have t5 : decide (1 ≤ b) = false := by simpa using c5
    have HR : Hid (loanB p r b s t = false) := loanB_no fun h => by have := h.b0; omega
    go_enter Tryz.func24, Tryz.ntmps24
    go_wp2_with fail
    go_ret
    exact ⟨by rw [HR.out]; rfl, by repeat (first | exact Below.refl _ _ | refine Below.alloc ?_ (by simp) _)⟩
  have t5 : decide (1 ≤ b) = true := by simpa using c5
  by_cases c6 : b ≤ 3
  case neg =>
    have t6 : decide (b ≤ 3) = false := by simpa using c6
    have HR : Hid (loanB p r b s t = false) := loanB_no fun h => by have := h.b1; omega
    go_enter Tryz.func24, Tryz.ntmps24
    go_wp2_with fail
    go_ret
    exact ⟨by rw [HR.out]; rfl, by repeat (first | exact Below.refl _ _ | refine Below.alloc ?_ (by simp) _)⟩
  have t6 : decide (b ≤ 3) = true := by simpa using c6
  by_cases c7 : 1 ≤ t
  case neg =>
    have t7 : decide (1 ≤ t) = false := by simpa using c7
    have HR : Hid (loanB p r b s t = false) := loanB_no fun h => by have := h.t0; omega
    go_enter Tryz.func24, Tryz.ntmps24
    go_wp2_with fail
    go_ret
    exact ⟨by rw [HR.out]; rfl, by repeat (first | exact Below.refl _ _ | refine Below.alloc ?_ (by simp) _)⟩
  have t7 : decide (1 ≤ t) = true := by simpa using c7
  by_cases c8 : t ≤ 60
  case neg =>
    have t8 : decide (t ≤ 60) = false := by simpa using c8
    have HR : Hid (loanB p r b s t = false) := loanB_no fun h => by have := h.t1; omega
    go_enter Tryz.func24, Tryz.ntmps24
    go_wp2_with fail
    go_ret
    exact ⟨by rw [HR.out]; rfl, by repeat (first | exact Below.refl _ _ | refine Below.alloc ?_ (by simp) _)⟩
  have t8 : decide (t ≤ 60) = true := by simpa using c8
  cases h9 : dayRB s
  · have HR : Hid (loanB p r b s t = false) := loanB_no fun h => by
      have hh : dayRB s = true := (dayAdd_parts (dayAdd_pair h.d)).1
      rw [h9] at hh
      cases hh
    have H9 : Hid (dayRB s = false) := h9
    clear h9
    go_enter Tryz.func24, Tryz.ntmps24
    go_wp2_with fail
    refine (spec_dayRight _ _).mono ?_
    rintro e w0 ⟨rfl, hw0⟩
    rw [hw0, H9.out]
    clear hw0
    go_wp2_with fail
    go_ret
    exact ⟨by rw [HR.out]; rfl, by repeat (first | exact Below.refl _ _ | refine Below.alloc ?_ (by simp) _)⟩
  have H9 : Hid (dayRB s = true) := h9
  clear h9
  have H10 : Hid (∀ w, Calls Tryz.prog 13 #[.int .i64 s, .int .i64 t] w fun e w' => e = .returned (moneyV (dayAddB s t)) ∧ Below w.heap.size w w') := fun w => spec_dayAdd s t w
  have HR : Hid (loanB p r b s t = ((dayAddB s t).2 == 0)) := by
    by_cases hd : (dayAddB s t).2 = 0
    · rw [Hid, (loanB_iff p r b s t).2 ⟨by omega, by omega, by omega, by omega, by omega, by omega, by omega, by omega, hd⟩, hd]; rfl
    · rw [Hid, loanB_no fun h => hd h.d]; exact (beq_eq_false_iff_ne.2 hd).symm
  generalize dayAddB s t = D at *
  obtain ⟨N, c⟩ := D
  simp only [moneyV] at H10
  have fld : ∀ w, (Instr.field 37 (.agg #[.int .i64 N, .int .i64 c]) 1).run Tryz.prog w = .ok (.int .i64 c) w := fun w => by kernel_rfl
  go_enter Tryz.func24, Tryz.ntmps24
  go_wp2_with fail
  refine (spec_dayRight _ _).mono ?_
  rintro e w0 ⟨rfl, hw0⟩
  rw [hw0, H9.out]
  clear hw0
  go_wp2_with fail
  refine (H10.out _).mono ?_
  rintro e w1 ⟨rfl, hb1⟩
  have HB : Hid (Below w.heap.size w w1) := ((Below.refl _ _).alloc (Nat.le_refl _) _).trans (hb1.mono (by simp))
  clear hb1
  go_wp2_with fail
  go_ret
  exact ⟨by rw [HR.out]; rfl, HB.out⟩

end Go.Proofs.YtnefcldjigndgaaGreatDoor
