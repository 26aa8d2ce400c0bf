/- Span, of the program and of its model: what each call does. -/
import Derived.Test.YtnefcldjigndgaaGreatDoorDayAdd
namespace Go.Proofs.YtnefcldjigndgaaGreatDoor
open Go.RowKit

theorem spanB_zero (basis a b : Int) : (spanB basis a b).2 ≠ 0 → (spanB basis a b).1 = 0 := by unfold spanB; (repeat' split) <;> simp

set_option maxRecDepth 100000 in
set_option maxHeartbeats 1000000 in
theorem impl_even (y m d : Int) (y0 : 2000 ≤ y) (y1 : y ≤ 2099) (m0 : 1 ≤ m) (m1 : m ≤ 12) (d0 : 1 ≤ d) (d1 : d ≤ 31) (w : World) :
    Calls Tryz.prog 64 #[.agg #[.int .i64 y, .int .i64 m, .int .i64 d]] w fun e w' => e = .returned (.int .i64 (evenB (y, m, d))) ∧ Below w.heap.size w w' := by
  by_cases h : 30 < d
  · have HR : Hid (evenB (y, m, d) = 360 * y + 30 * m + 30) := by simp only [Hid, evenB]; omega
    go_enter Tryz.func64, Tryz.ntmps64
    go_wp2_with fail
    go_ret
    exact ⟨by rw [HR.out]; rfl, (Below.refl _ _).alloc (Nat.le_refl _) _⟩
  · have HR : Hid (evenB (y, m, d) = 360 * y + 30 * m + d) := by simp only [Hid, evenB]; omega
    go_enter Tryz.func64, Tryz.ntmps64
    go_wp2_with fail
    go_ret
    exact ⟨by rw [HR.out]; rfl, (Below.refl _ _).alloc (Nat.le_refl _) _⟩


def basisB (b : Int) : Bool := decide (1 ≤ b) && decide (b ≤ 3)
theorem basisB_iff (b : Int) : basisB b = true ↔ 1 ≤ b ∧ b ≤ 3 := by simp [basisB]

set_option maxRecDepth 100000 in
theorem impl_basisRight (b : Int) (w : World) : Calls Tryz.prog 34 #[.int .i64 b] w fun e w' => e = .returned (.bool (basisB b)) ∧ w' = w := by
  by_cases h : 1 ≤ b
  · have t0 : decide (1 ≤ b) = true := by simpa using h
    go_enter Tryz.func34, Tryz.ntmps34
    go_wp2
    go_ret
    exact ⟨by simp [basisB, h], rfl⟩
  · have t0 : decide (1 ≤ b) = false := by simpa using h
    have HR : Hid (basisB b = false) := by simp [Hid, basisB, t0]
    go_enter Tryz.func34, Tryz.ntmps34
    go_wp2
    go_ret
    exact ⟨by rw [HR.out]; rfl, rfl⟩

set_option maxRecDepth 100000 in
set_option maxHeartbeats 4000000 in
theorem impl_span (basis a b : Int) (w : World) (hM : Mon w) :
    Calls Tryz.prog 49 #[.int .i64 basis, .int .i64 a, .int .i64 b] w fun e w' => e = .returned (tupV (spanB basis a b)) ∧ Below w.heap.size w w' := by
  have hmm := @run_makeMap Tryz.prog
  have hlt := hM.lt
  have HM : Hid (Mon w) := hM
  clear hM
  cases hba : basisB basis
  · have HR : Hid (spanB basis a b = (0, 1)) := by
      rw [Hid, spanB, if_neg]
      intro h
      have := (basisB_iff basis).2 ⟨by omega, by omega⟩
      rw [hba] at this
      cases this
    have HBa : Hid (basisB basis = false) := hba
    clear hba
    go_enter Tryz.func49, Tryz.ntmps49
    go_wp2_with fail
    refine (impl_basisRight _ _).mono ?_
    rintro e w9 ⟨rfl, hw9⟩
    rw [hw9, HBa.out]
    clear hw9
    go_wp2_with fail
    go_ret2
    exact ⟨by rw [HR.out, tupV_err _ _ (by decide)]; rfl, Below.refl _ _⟩
  obtain ⟨q0, q1⟩ := (basisB_iff basis).1 hba
  have HBa : Hid (basisB basis = true) := hba
  clear hba
  cases ha : dayRB a
  · have HR : Hid (spanB basis a b = (0, 1)) := by rw [Hid, spanB, if_neg]; simp [ha]
    have HA : Hid (dayRB a = false) := ha
    clear ha
    go_enter Tryz.func49, Tryz.ntmps49
    go_wp2_with fail
    refine (impl_basisRight _ _).mono ?_
    rintro e w9 ⟨rfl, hw9⟩
    rw [hw9, HBa.out]
    clear hw9
    go_wp2_with fail
    refine (impl_dayRight _ _).mono ?_
    rintro e w0 ⟨rfl, hw0⟩
    rw [hw0, HA.out]
    clear hw0
    go_wp2_with fail
    go_ret2
    exact ⟨by rw [HR.out, tupV_err _ _ (by decide)]; rfl, Below.refl _ _⟩
  have HA : Hid (dayRB a = true) := ha
  cases hb : dayRB b
  · have HR : Hid (spanB basis a b = (0, 1)) := by rw [Hid, spanB, if_neg]; simp [hb]
    have HB : Hid (dayRB b = false) := hb
    clear ha hb
    go_enter Tryz.func49, Tryz.ntmps49
    go_wp2_with fail
    refine (impl_basisRight _ _).mono ?_
    rintro e w9 ⟨rfl, hw9⟩
    rw [hw9, HBa.out]
    clear hw9
    go_wp2_with fail
    refine (impl_dayRight _ _).mono ?_
    rintro e w0 ⟨rfl, hw0⟩
    rw [hw0, HA.out]
    clear hw0
    go_wp2_with fail
    refine (impl_dayRight _ _).mono ?_
    rintro e w0 ⟨rfl, hw0⟩
    rw [hw0, HB.out]
    clear hw0
    go_wp2_with fail
    go_ret2
    exact ⟨by rw [HR.out, tupV_err _ _ (by decide)]; rfl, Below.refl _ _⟩
  have HB : Hid (dayRB b = true) := hb
  by_cases c2 : b < a
  · have t2 : decide (b < a) = true := by simpa using c2
    have HR : Hid (spanB basis a b = (0, 1)) := by rw [Hid, spanB, if_neg]; omega
    clear ha hb
    go_enter Tryz.func49, Tryz.ntmps49
    go_wp2_with fail
    refine (impl_basisRight _ _).mono ?_
    rintro e w9 ⟨rfl, hw9⟩
    rw [hw9, HBa.out]
    clear hw9
    go_wp2_with fail
    refine (impl_dayRight _ _).mono ?_
    rintro e w0 ⟨rfl, hw0⟩
    rw [hw0, HA.out]
    clear hw0
    go_wp2_with fail
    refine (impl_dayRight _ _).mono ?_
    rintro e w0 ⟨rfl, hw0⟩
    rw [hw0, HB.out]
    clear hw0
    go_wp2_with fail
    go_ret2
    exact ⟨by rw [HR.out, tupV_err _ _ (by decide)]; rfl, Below.refl _ _⟩
  have t2 : decide (b < a) = false := by simpa using c2
  obtain ⟨a0, a1⟩ := (dayRB_iff a).1 ha
  obtain ⟨b0, b1⟩ := (dayRB_iff b).1 hb
  by_cases c3 : basis = 3
  case neg =>
    have t3 : (basis != 3) = true := by rw [bne_iff_ne]; exact c3
    have HR : Hid (spanB basis a b = (b - a, 0)) := by rw [Hid, spanB, if_pos ⟨by omega, by omega, ha, hb, by omega⟩, if_neg c3]
    clear ha hb c3
    go_enter Tryz.func49, Tryz.ntmps49
    go_wp2_with fail
    refine (impl_basisRight _ _).mono ?_
    rintro e w9 ⟨rfl, hw9⟩
    rw [hw9, HBa.out]
    clear hw9
    go_wp2_with fail
    refine (impl_dayRight _ _).mono ?_
    rintro e w0 ⟨rfl, hw0⟩
    rw [hw0, HA.out]
    clear hw0
    go_wp2_with fail
    refine (impl_dayRight _ _).mono ?_
    rintro e w0 ⟨rfl, hw0⟩
    rw [hw0, HB.out]
    clear hw0
    go_wp2_with fail
    go_ret2
    exact ⟨by rw [HR.out, tupV_ok]; rfl, Below.refl _ _⟩
  subst c3
  have HR : Hid (spanB 3 a b = (max 0 (evenB (dateB b) - evenB (dateB a)), 0)) := by rw [Hid, spanB, if_pos ⟨by omega, by omega, ha, hb, by omega⟩, if_pos rfl]
  have A := dateB_is a0 a1
  have B := dateB_is b0 b1
  have H1 : Hid (∀ w p, Cal w p 0 → Mon w → 2 ≠ p → Calls Tryz.prog 56 #[.map (some p), .int .i64 b] w fun e w' => e = .returned (dateV (dateB b)) ∧ Cal w' p (0 + 2) ∧ w.grownBy w' (some p)) := fun w p hC hM hG => impl_date b b0 b1 p 0 (by omega) w hC hM hG
  have H2 : Hid (∀ w p, Cal w p 2 → Mon w → 2 ≠ p → Calls Tryz.prog 56 #[.map (some p), .int .i64 a] w fun e w' => e = .returned (dateV (dateB a)) ∧ Cal w' p (2 + 2) ∧ w.grownBy w' (some p)) := fun w p hC hM hG => impl_date a a0 a1 p 2 (by omega) w hC hM hG
  clear ha hb
  generalize dateB a = U at *
  generalize dateB b = V at *
  obtain ⟨ya, ma, da⟩ := U
  obtain ⟨yb, mb, db⟩ := V
  simp only [dateV] at H1 H2 A B
  have H3 : Hid (∀ w, Calls Tryz.prog 64 #[.agg #[.int .i64 ya, .int .i64 ma, .int .i64 da]] w fun e w' => e = .returned (.int .i64 (evenB (ya, ma, da))) ∧ Below w.heap.size w w') := fun w => impl_even ya ma da A.y0 A.y1 A.m0 A.m1 A.d0 (by have := A.d1; have := len_le ya ma; omega) w
  have H4 : Hid (∀ w, Calls Tryz.prog 64 #[.agg #[.int .i64 yb, .int .i64 mb, .int .i64 db]] w fun e w' => e = .returned (.int .i64 (evenB (yb, mb, db))) ∧ Below w.heap.size w w') := fun w => impl_even yb mb db B.y0 B.y1 B.m0 B.m1 B.d0 (by have := B.d1; have := len_le yb mb; omega) w
  have hea : 0 ≤ evenB (ya, ma, da) ∧ evenB (ya, ma, da) ≤ 1000000 := by
    have := A.y0; have := A.y1; have := A.m0; have := A.m1; have := A.d0
    simp only [evenB]; omega
  have heb : 0 ≤ evenB (yb, mb, db) ∧ evenB (yb, mb, db) ≤ 1000000 := by
    have := B.y0; have := B.y1; have := B.m0; have := B.m1; have := B.d0
    simp only [evenB]; omega
  clear A B
  generalize evenB (ya, ma, da) = ea at *
  generalize evenB (yb, mb, db) = eb at *
  obtain ⟨ea0, ea1⟩ := hea
  obtain ⟨eb0, eb1⟩ := heb
  obtain ⟨x, hx⟩ : ∃ x, eb - ea = x := ⟨_, rfl⟩
  rw [hx] at HR
  by_cases hpos : 0 < x

  · have HX : Hid (max 0 x = x) := by rw [Hid]; omega
    go_enter Tryz.func49, Tryz.ntmps49
    go_wp2_with fail
    refine (impl_basisRight _ _).mono ?_
    rintro e w9 ⟨rfl, hw9⟩
    rw [hw9, HBa.out]
    clear hw9
    go_wp2_with fail
    refine (impl_dayRight _ _).mono ?_
    rintro e w0 ⟨rfl, hw0⟩
    rw [hw0, HA.out]
    clear hw0
    go_wp2_with fail
    refine (impl_dayRight _ _).mono ?_
    rintro e w0 ⟨rfl, hw0⟩
    rw [hw0, HB.out]
    clear hw0
    go_wp2_with fail
    refine (H1.out _ _ (Cal.new rfl) (by exact HM.out.alloc _) (by omega)).mono ?_
    rintro e w2 ⟨rfl, hC2, hg2⟩
    have hs2 : w.heap.size < w2.heap.size := by have := hg2.size; simp at this; omega
    have HC2 : Hid (Cal w2 w.heap.size 2) := hC2
    have HM2 : Hid (Mon w2) := (HM.out.alloc _).grown hg2 (by omega)
    have HB2 : Hid (Below w.heap.size w w2) := Below.grown ((Below.refl _ _).alloc (Nat.le_refl _) _) hg2 (by simp) (fun k hk => by cases hk; exact Nat.le_refl _)
    clear hC2 hg2
    go_wp2_with fail
    refine (H4.out _).mono ?_
    rintro e w3 ⟨rfl, hb3⟩
    have HC3 : Hid (Cal w3 w.heap.size 2) := HC2.out.under hb3
    have HM3 : Hid (Mon w3) := HM2.out.below hb3
    have HB3 : Hid (Below w.heap.size w w3) := HB2.out.trans (hb3.mono HB2.out.size)
    clear hb3
    go_wp2_with fail
    refine (H2.out _ _ (by exact HC3.out) (by exact HM3.out) (by omega)).mono ?_
    rintro e w4 ⟨rfl, _, hg4⟩
    have HB4 : Hid (Below w.heap.size w w4) := Below.grown HB3.out hg4 HB3.out.size (fun k hk => by cases hk; exact Nat.le_refl _)
    clear hg4
    go_wp2_with fail
    refine (H3.out _).mono ?_
    rintro e w5 ⟨rfl, hb5⟩
    have HB5 : Hid (Below w.heap.size w w5) := HB4.out.trans (hb5.mono HB4.out.size)
    clear hb5
    go_wp2_with fail
    go_ret2
    exact ⟨by rw [HR.out, tupV_ok, HX.out]; rfl, HB5.out⟩
  · have HX : Hid (max 0 x = 0) := by rw [Hid]; omega
    go_enter Tryz.func49, Tryz.ntmps49
    go_wp2_with fail
    refine (impl_basisRight _ _).mono ?_
    rintro e w9 ⟨rfl, hw9⟩
    rw [hw9, HBa.out]
    clear hw9
    go_wp2_with fail
    refine (impl_dayRight _ _).mono ?_
    rintro e w0 ⟨rfl, hw0⟩
    rw [hw0, HA.out]
    clear hw0
    go_wp2_with fail
    refine (impl_dayRight _ _).mono ?_
    rintro e w0 ⟨rfl, hw0⟩
    rw [hw0, HB.out]
    clear hw0
    go_wp2_with fail
    refine (H1.out _ _ (Cal.new rfl) (by exact HM.out.alloc _) (by omega)).mono ?_
    rintro e w2 ⟨rfl, hC2, hg2⟩
    have hs2 : w.heap.size < w2.heap.size := by have := hg2.size; simp at this; omega
    have HC2 : Hid (Cal w2 w.heap.size 2) := hC2
    have HM2 : Hid (Mon w2) := (HM.out.alloc _).grown hg2 (by omega)
    have HB2 : Hid (Below w.heap.size w w2) := Below.grown ((Below.refl _ _).alloc (Nat.le_refl _) _) hg2 (by simp) (fun k hk => by cases hk; exact Nat.le_refl _)
    clear hC2 hg2
    go_wp2_with fail
    refine (H4.out _).mono ?_
    rintro e w3 ⟨rfl, hb3⟩
    have HC3 : Hid (Cal w3 w.heap.size 2) := HC2.out.under hb3
    have HM3 : Hid (Mon w3) := HM2.out.below hb3
    have HB3 : Hid (Below w.heap.size w w3) := HB2.out.trans (hb3.mono HB2.out.size)
    clear hb3
    go_wp2_with fail
    refine (H2.out _ _ (by exact HC3.out) (by exact HM3.out) (by omega)).mono ?_
    rintro e w4 ⟨rfl, _, hg4⟩
    have HB4 : Hid (Below w.heap.size w w4) := Below.grown HB3.out hg4 HB3.out.size (fun k hk => by cases hk; exact Nat.le_refl _)
    clear hg4
    go_wp2_with fail
    refine (H3.out _).mono ?_
    rintro e w5 ⟨rfl, hb5⟩
    have HB5 : Hid (Below w.heap.size w w5) := HB4.out.trans (hb5.mono HB4.out.size)
    clear hb5
    go_wp2_with fail
    go_ret2
    exact ⟨by rw [HR.out, tupV_ok, HX.out]; rfl, HB5.out⟩



set_option maxRecDepth 100000 in
set_option maxHeartbeats 4000000 in
theorem spec_span (basis a b : Int) (w : World) :
    Calls Tryz.prog 22 #[.int .i64 basis, .int .i64 a, .int .i64 b] w fun e w' => e = .returned (moneyV (spanB basis a b)) ∧ Below w.heap.size w w' := by
  by_cases c0 : basis < 1
  · have t0 : decide (basis < 1) = true := by simpa using c0
    have HR : Hid (spanB basis a b = (0, 1)) := by rw [Hid, spanB, if_neg]; omega
    go_enter Tryz.func22, Tryz.ntmps22
    go_wp2_with fail
    refine bodyPost_ret (v := moneyV (spanB basis a b)) ?_ rfl ⟨rfl, ?_⟩
    · rw [HR.out]
      simp [results, Tryz.results22, go_sem, moneyV]
    · repeat (first | exact Below.refl _ _ | refine Below.setCell ?_ (by simp) _ | refine Below.alloc ?_ (by simp) _)
  have t0 : decide (basis < 1) = false := by simpa using c0
  by_cases c1 : 3 < basis
  · have t1 : decide (3 < basis) = true := by simpa using c1
    have HR : Hid (spanB basis a b = (0, 1)) := by rw [Hid, spanB, if_neg]; omega
    go_enter Tryz.func22, Tryz.ntmps22
    go_wp2_with fail
    refine bodyPost_ret (v := moneyV (spanB basis a b)) ?_ rfl ⟨rfl, ?_⟩
    · rw [HR.out]
      simp [results, Tryz.results22, go_sem, moneyV]
    · repeat (first | exact Below.refl _ _ | refine Below.setCell ?_ (by simp) _ | refine Below.alloc ?_ (by simp) _)
  have t1 : decide (3 < basis) = false := by simpa using c1
  cases ha : dayRB a
  · have HR : Hid (spanB basis a b = (0, 1)) := by rw [Hid, spanB, if_neg]; simp [ha]
    have HA : Hid (dayRB a = false) := ha
    clear ha
    go_enter Tryz.func22, Tryz.ntmps22
    go_wp2_with fail
    refine (spec_dayRight _ _).mono ?_
    rintro e w0 ⟨rfl, hw0⟩
    rw [hw0, HA.out]
    clear hw0
    go_wp2_with fail
    refine bodyPost_ret (v := moneyV (spanB basis a b)) ?_ rfl ⟨rfl, ?_⟩
    · rw [HR.out]
      simp [results, Tryz.results22, go_sem, moneyV]
    · repeat (first | exact Below.refl _ _ | refine Below.setCell ?_ (by simp) _ | refine Below.alloc ?_ (by simp) _)
  have HA : Hid (dayRB a = true) := ha
  cases hb : dayRB b
  · have HR : Hid (spanB basis a b = (0, 1)) := by rw [Hid, spanB, if_neg]; simp [hb]
    have HB : Hid (dayRB b = false) := hb
    clear ha hb
    go_enter Tryz.func22, Tryz.ntmps22
    go_wp2_with fail
    refine (spec_dayRight _ _).mono ?_
    rintro e w0 ⟨rfl, hw0⟩
    rw [hw0, HA.out]
    clear hw0
    go_wp2_with fail
    refine (spec_dayRight _ _).mono ?_
    rintro e w0 ⟨rfl, hw0⟩
    rw [hw0, HB.out]
    clear hw0
    go_wp2_with fail
    refine bodyPost_ret (v := moneyV (spanB basis a b)) ?_ rfl ⟨rfl, ?_⟩
    · rw [HR.out]
      simp [results, Tryz.results22, go_sem, moneyV]
    · repeat (first | exact Below.refl _ _ | refine Below.setCell ?_ (by simp) _ | refine Below.alloc ?_ (by simp) _)
  have HB : Hid (dayRB b = true) := hb
  by_cases c2 : b < a
  · have t2 : decide (b < a) = true := by simpa using c2
    have HR : Hid (spanB basis a b = (0, 1)) := by rw [Hid, spanB, if_neg]; omega
    clear ha hb
    go_enter Tryz.func22, Tryz.ntmps22
    go_wp2_with fail
    refine (spec_dayRight _ _).mono ?_
    rintro e w0 ⟨rfl, hw0⟩
    rw [hw0, HA.out]
    clear hw0
    go_wp2_with fail
    refine (spec_dayRight _ _).mono ?_
    rintro e w0 ⟨rfl, hw0⟩
    rw [hw0, HB.out]
    clear hw0
    go_wp2_with fail
    refine bodyPost_ret (v := moneyV (spanB basis a b)) ?_ rfl ⟨rfl, ?_⟩
    · rw [HR.out]
      simp [results, Tryz.results22, go_sem, moneyV]
    · repeat (first | exact Below.refl _ _ | refine Below.setCell ?_ (by simp) _ | refine Below.alloc ?_ (by simp) _)
  have t2 : decide (b < a) = false := by simpa using c2
  obtain ⟨a0, a1⟩ := (dayRB_iff a).1 ha
  obtain ⟨b0, b1⟩ := (dayRB_iff b).1 hb
  by_cases c3 : basis = 3
  case neg =>
    have t3 : (basis != 3) = true := by rw [bne_iff_ne]; exact c3
    have HR : Hid (spanB basis a b = (b - a, 0)) := by rw [Hid, spanB, if_pos ⟨by omega, by omega, ha, hb, by omega⟩, if_neg c3]
    clear ha hb c3
    go_enter Tryz.func22, Tryz.ntmps22
    go_wp2_with fail
    refine (spec_dayRight _ _).mono ?_
    rintro e w0 ⟨rfl, hw0⟩
    rw [hw0, HA.out]
    clear hw0
    go_wp2_with fail
    refine (spec_dayRight _ _).mono ?_
    rintro e w0 ⟨rfl, hw0⟩
    rw [hw0, HB.out]
    clear hw0
    go_wp2_with fail
    refine bodyPost_ret (v := moneyV (spanB basis a b)) ?_ rfl ⟨rfl, ?_⟩
    · rw [HR.out]
      simp [results, Tryz.results22, go_sem, moneyV]
    · repeat (first | exact Below.refl _ _ | refine Below.setCell ?_ (by simp) _ | refine Below.alloc ?_ (by simp) _)
  subst c3
  have HR : Hid (spanB 3 a b = (max 0 (evenB (dateB b) - evenB (dateB a)), 0)) := by rw [Hid, spanB, if_pos ⟨by omega, by omega, ha, hb, by omega⟩, if_pos rfl]
  have A := dateB_is a0 a1
  have B := dateB_is b0 b1
  have H1 : Hid (∀ w, Calls Tryz.prog 27 #[.int .i64 a] w fun e w' => e = .returned (dateV (dateB a)) ∧ Below w.heap.size w w') := fun w => by
    have := spec_dateOf a w
    rw [dateOfB, if_pos ha] at this
    exact this
  have H2 : Hid (∀ w, Calls Tryz.prog 27 #[.int .i64 b] w fun e w' => e = .returned (dateV (dateB b)) ∧ Below w.heap.size w w') := fun w => by
    have := spec_dateOf b w
    rw [dateOfB, if_pos hb] at this
    exact this
  clear ha hb
  generalize dateB a = U at *
  generalize dateB b = V at *
  obtain ⟨ya, ma, da⟩ := U
  obtain ⟨yb, mb, db⟩ := V
  simp only [dateV] at H1 H2 A B
  have ba : 2000 ≤ ya ∧ ya ≤ 2099 ∧ 1 ≤ ma ∧ ma ≤ 12 ∧ 1 ≤ da := ⟨A.y0, A.y1, A.m0, A.m1, A.d0⟩
  have bb : 2000 ≤ yb ∧ yb ≤ 2099 ∧ 1 ≤ mb ∧ mb ≤ 12 ∧ 1 ≤ db := ⟨B.y0, B.y1, B.m0, B.m1, B.d0⟩
  obtain ⟨pa0, pa1, pa2, pa3, pa4⟩ := ba
  obtain ⟨pb0, pb1, pb2, pb3, pb4⟩ := bb
  clear A B
  have H3 : Hid (∀ w, Calls Tryz.prog 18 #[.int .i64 30, .int .i64 da] w fun e w' => e = .returned (.int .i64 (min 30 da)) ∧ w' = w) := fun w => spec_min 30 da w
  have H4 : Hid (∀ w, Calls Tryz.prog 18 #[.int .i64 30, .int .i64 db] w fun e w' => e = .returned (.int .i64 (min 30 db)) ∧ w' = w) := fun w => spec_min 30 db w
  have hma : 1 ≤ min 30 da ∧ min 30 da ≤ 30 := by omega
  have hmb : 1 ≤ min 30 db ∧ min 30 db ≤ 30 := by omega
  have HE : Hid (evenB (yb, mb, db) - evenB (ya, ma, da) = 360 * (yb - ya) + 30 * (mb - ma) + min 30 db - min 30 da) := by simp only [Hid, evenB]; omega
  rw [HE.out] at HR
  clear HE
  generalize min 30 da = la at *
  generalize min 30 db = lb at *
  obtain ⟨la0, la1⟩ := hma
  obtain ⟨lb0, lb1⟩ := hmb
  obtain ⟨x, hx⟩ : ∃ x, 360 * (yb - ya) + 30 * (mb - ma) + lb - la = x := ⟨_, rfl⟩
  rw [hx] at HR
  have H5 : Hid (∀ w, Calls Tryz.prog 19 #[.int .i64 0, .int .i64 x] w fun e w' => e = .returned (.int .i64 (max 0 x)) ∧ w' = w) := fun w => spec_max 0 x w
  generalize max 0 x = N at *
  go_enter Tryz.func22, Tryz.ntmps22
  go_wp2_with fail
  refine (spec_dayRight _ _).mono ?_
  rintro e w0 ⟨rfl, hw0⟩
  rw [hw0, HA.out]
  clear hw0
  go_wp2_with fail
  refine (spec_dayRight _ _).mono ?_
  rintro e w0 ⟨rfl, hw0⟩
  rw [hw0, HB.out]
  clear hw0
  go_wp2_with fail
  refine (H1.out _).mono ?_
  rintro e w2 ⟨rfl, hb2⟩
  have hs2 : w.heap.size < w2.heap.size := by have := hb2.size; simp at this; omega
  have r2 : ∀ j, w2.cell? ⟨w.heap.size, j, none⟩ = (#[Value.int .i64 0, .int .i64 0] : Array Value)[j]? := fun j => by
    rw [hb2.cell (p := ⟨w.heap.size, j, none⟩) (by simp), World.cell?_alloc_new]
  have f2 : ∀ j, w2.frozen? ⟨w.heap.size, j, none⟩ = false := fun j => by
    rw [hb2.frozen (p := ⟨w.heap.size, j, none⟩) (by simp), World.frozen?_alloc_new]
  have HB2 : Hid (Below w.heap.size w w2) := ((Below.refl _ _).alloc (Nat.le_refl _) _).trans (hb2.mono (by simp))
  clear hb2
  go_wp2_with fail
  refine (H2.out _).mono ?_
  rintro e w3 ⟨rfl, hb3⟩
  have hs3 : w2.heap.size < w3.heap.size := by have := hb3.size; simp at this; omega
  have g3 : ∀ j, w3.cell? ⟨w2.heap.size, j, none⟩ = (#[Value.int .i64 ya, .int .i64 ma, .int .i64 da] : Array Value)[j]? := fun j => by
    rw [hb3.cell (p := ⟨w2.heap.size, j, none⟩) (by simp), World.cell?_alloc_new]
  have r3 : ∀ j, w3.cell? ⟨w.heap.size, j, none⟩ = (#[Value.int .i64 0, .int .i64 0] : Array Value)[j]? := fun j => by
    rw [hb3.cell (p := ⟨w.heap.size, j, none⟩) (by simp; omega), World.cell?_alloc_past _ _ _ hs2]; exact r2 j
  have f3 : ∀ j, w3.frozen? ⟨w.heap.size, j, none⟩ = false := fun j => by
    rw [hb3.frozen (p := ⟨w.heap.size, j, none⟩) (by simp; omega), World.frozen?_alloc_past _ _ _ hs2]; exact f2 j
  have HB3 : Hid (Below w.heap.size w w3) := (HB2.out.alloc HB2.out.size _).trans (hb3.mono (by simp; omega))
  have hs03 : w.heap.size < w3.heap.size := by omega
  clear hb3 r2 f2
  go_wp2_with fail
  go_quiet (first | (go_at_call 18; first | refine Calls.quiet_of_same (H3.out _) | refine Calls.quiet_of_same (H4.out _)))
  go_wp2_with fail
  refine (H5.out _).mono ?_
  rintro e w4 ⟨rfl, hw4⟩
  subst hw4
  go_wp2_with fail
  refine bodyPost_ret (v := moneyV (spanB 3 a b)) ?_ rfl ⟨rfl, ?_⟩
  · rw [HR.out]
    simp [results, Tryz.results22, go_sem, r3, hs03, moneyV]
  · repeat (first | exact HB3.out | refine below_drewN ?_ _ | refine Below.setCell ?_ (by simp) _ | refine Below.alloc ?_ (by first | omega | (simp [World.setCell]; omega)) _)

end Go.Proofs.YtnefcldjigndgaaGreatDoor
