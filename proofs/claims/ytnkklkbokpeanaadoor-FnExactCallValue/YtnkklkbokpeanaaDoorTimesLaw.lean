/- Products of money in the model (spec.MoneyTimes), and the law that holds impl.MoneyTimes against it. -/
import Derived.Test.YtnkklkbokpeanaaDoorTimes
namespace Go.Proofs.YtnkklkbokpeanaaDoor
open Go.RowKit

set_option maxHeartbeats 400000 in
theorem spec_abs (n : Int) (w : World) (h0 : -9223372036854775807 ≤ n) (h1 : n ≤ 9223372036854775807) :
    Calls Tryd.prog 68 #[.int .i64 n] w fun e w' => e = .returned (.int .i64 (n.natAbs : Int)) ∧ w' = w := by
  by_cases h : n < 0
  · have e1 : (n.natAbs : Int) = -n := by omega
    rw [e1]
    go_enter Tryd.func68, Tryd.ntmps68
    go_wp2
    go_ret
    exact ⟨rfl, rfl⟩
  · have e1 : (n.natAbs : Int) = n := by omega
    rw [e1]
    go_enter Tryd.func68, Tryd.ntmps68
    go_wp2
    go_ret
    exact ⟨rfl, rfl⟩

set_option maxRecDepth 100000 in
set_option maxHeartbeats 1000000 in
theorem spec_times (a b : Int) (w : World) (h0 : -9223372036854775808 ≤ b) (h1 : b ≤ 9223372036854775807) :
    Calls Tryd.prog 33 #[.int .i64 a, .int .i64 b] w fun e w' => e = .returned (moneyV (timesB a b)) ∧ Below w.heap.size w w' := by
  cases ha : rightB a
  · have HR : Hid (timesB a b = (0, 1)) := by simp [Hid, timesB, ha]
    have H : Hid (rightB a = false) := ha
    clear ha
    go_enter Tryd.func33, Tryd.ntmps33
    go_wp2_with fail
    refine (spec_right _ _).mono ?_
    rintro e w1 ⟨rfl, rfl⟩
    rw [H.out]
    go_wp2_with fail
    refine bodyPost_ret (v := moneyV (timesB a b)) ?_ rfl ⟨rfl, ?_⟩
    · rw [HR.out]
      simp [results, Tryd.results33, go_sem, moneyV]
    · repeat (first | exact Below.refl _ _ | refine Below.setCell ?_ (by exact Nat.le_refl _) _ | refine Below.alloc ?_ (by simp) _)
  have H : Hid (rightB a = true) := ha
  obtain ⟨a0, a1⟩ := (rightB_iff a).1 ha
  have hT : timesB a b = outB (a * b) := by simp [timesB, ha]
  clear ha
  by_cases hza : a = 0
  · have HR : Hid (timesB a b = (0, 0)) := by rw [Hid, hT, hza, Int.zero_mul]; exact outB_ok (by omega) (by omega)
    have t1 : (a == 0) = true := by rw [beq_iff_eq]; exact hza
    clear hT hza
    go_enter Tryd.func33, Tryd.ntmps33
    go_wp2_with fail
    refine (spec_right _ _).mono ?_
    rintro e w1 ⟨rfl, rfl⟩
    rw [H.out]
    go_wp2_with fail
    refine bodyPost_ret (v := moneyV (timesB a b)) ?_ rfl ⟨rfl, ?_⟩
    · rw [HR.out]
      simp [results, Tryd.results33, go_sem, moneyV]
    · repeat (first | exact Below.refl _ _ | refine Below.setCell ?_ (by exact Nat.le_refl _) _ | refine Below.alloc ?_ (by simp) _)
  have t1 : (a == 0) = false := beq_eq_false_iff_ne.2 hza
  by_cases hzb : b = 0
  · have HR : Hid (timesB a b = (0, 0)) := by rw [Hid, hT, hzb, Int.mul_zero]; exact outB_ok (by omega) (by omega)
    have t2 : (b == 0) = true := by rw [beq_iff_eq]; exact hzb
    clear hT hzb
    go_enter Tryd.func33, Tryd.ntmps33
    go_wp2_with fail
    refine (spec_right _ _).mono ?_
    rintro e w1 ⟨rfl, rfl⟩
    rw [H.out]
    go_wp2_with fail
    refine bodyPost_ret (v := moneyV (timesB a b)) ?_ rfl ⟨rfl, ?_⟩
    · rw [HR.out]
      simp [results, Tryd.results33, go_sem, moneyV]
    · repeat (first | exact Below.refl _ _ | refine Below.setCell ?_ (by exact Nat.le_refl _) _ | refine Below.alloc ?_ (by simp) _)
  have t2 : (b == 0) = false := beq_eq_false_iff_ne.2 hzb
  have hab : (a * b).natAbs = a.natAbs * b.natAbs := Int.natAbs_mul a b
  have ha1 : 1 ≤ a.natAbs := by omega
  cases hb : rightB b
  · have H2 : Hid (rightB b = false) := hb
    have HR : Hid (timesB a b = (0, 13)) := by
      rw [Hid, hT]
      refine outB_no ?_
      have hbb : 1000000000000 < b.natAbs := by
        rcases Classical.em (-1000000000000 ≤ b ∧ b ≤ 1000000000000) with h | h
        · rw [rightB_yes h.1 h.2] at hb; cases hb
        · omega
      have := Nat.mul_le_mul ha1 (Nat.le_refl b.natAbs)
      omega
    clear hT hb hab
    go_enter Tryd.func33, Tryd.ntmps33
    go_wp2_with fail
    refine (spec_right _ _).mono ?_
    rintro e w1 ⟨rfl, rfl⟩
    rw [H.out]
    go_wp2_with fail
    refine (spec_right _ _).mono ?_
    rintro e w1 ⟨rfl, rfl⟩
    rw [H2.out]
    go_wp2_with fail
    refine bodyPost_ret (v := moneyV (timesB a b)) ?_ rfl ⟨rfl, ?_⟩
    · rw [HR.out]
      simp [results, Tryd.results33, go_sem, moneyV]
    · repeat (first | exact Below.refl _ _ | refine Below.setCell ?_ (by exact Nat.le_refl _) _ | refine Below.alloc ?_ (by simp) _)
  have H2 : Hid (rightB b = true) := hb
  obtain ⟨b0, b1⟩ := (rightB_iff b).1 hb
  clear hb
  have hdiv : b.natAbs ≤ 1000000000000 / a.natAbs ↔ a.natAbs * b.natAbs ≤ 1000000000000 := by rw [Nat.le_div_iff_mul_le (by omega), Nat.mul_comm]
  have hq : (1000000000000 : Int) / (a.natAbs : Int) = ((1000000000000 / a.natAbs : Nat) : Int) := by rw [Int.natCast_ediv]; rfl
  generalize 1000000000000 / a.natAbs = q at hdiv hq
  have HQ : Hid ((1000000000000 : Int) / (a.natAbs : Int) = (q : Int)) := hq
  have A0 : 0 < (a.natAbs : Int) := by omega
  have B1 : (b.natAbs : Int) ≤ 9223372036854775807 := by omega
  have Ha : Hid (a.natAbs ≤ 1000000000000 ∧ 1 ≤ a.natAbs) := ⟨by omega, ha1⟩
  by_cases hgt : (q : Int) < (b.natAbs : Int)
  · have HR : Hid (timesB a b = (0, 13)) := by
      rw [Hid, hT]
      refine outB_no ?_
      omega
    have tq : decide ((1000000000000 : Int) / (a.natAbs : Int) < (b.natAbs : Int)) = true := by rw [decide_eq_true_eq, hq]; exact hgt
    clear hT hab hdiv hq hgt
    go_enter Tryd.func33, Tryd.ntmps33
    go_wp2_with fail
    refine (spec_right _ _).mono ?_
    rintro e w1 ⟨rfl, rfl⟩
    rw [H.out]
    go_wp2_with fail
    refine (spec_right _ _).mono ?_
    rintro e w1 ⟨rfl, rfl⟩
    rw [H2.out]
    go_wp2_with fail
    refine (spec_abs _ _ (by omega) (by omega)).mono ?_
    rintro e w1 ⟨rfl, rfl⟩
    go_wp2_with fail
    refine (spec_abs _ _ (by omega) (by omega)).mono ?_
    rintro e w1 ⟨rfl, rfl⟩
    go_wp2_with fail
    refine bodyPost_ret (v := moneyV (timesB a b)) ?_ rfl ⟨rfl, ?_⟩
    · rw [HR.out]
      simp [results, Tryd.results33, go_sem, moneyV]
    · repeat (first | exact Below.refl _ _ | refine Below.setCell ?_ (by exact Nat.le_refl _) _ | refine Below.alloc ?_ (by simp) _)
  · have tq : decide ((1000000000000 : Int) / (a.natAbs : Int) < (b.natAbs : Int)) = false := by rw [decide_eq_false_iff_not, hq]; exact hgt
    have p0 : -1000000000000 ≤ a * b := by omega
    have p1 : a * b ≤ 1000000000000 := by omega
    have HT : Hid (timesB a b = outB (a * b)) := hT
    clear hT hab hdiv hq hgt
    go_enter Tryd.func33, Tryd.ntmps33
    go_wp2_with fail
    refine (spec_right _ _).mono ?_
    rintro e w1 ⟨rfl, rfl⟩
    rw [H.out]
    go_wp2_with fail
    refine (spec_right _ _).mono ?_
    rintro e w1 ⟨rfl, rfl⟩
    rw [H2.out]
    go_wp2_with fail
    refine (spec_abs _ _ (by omega) (by omega)).mono ?_
    rintro e w1 ⟨rfl, rfl⟩
    go_wp2_with fail
    refine (spec_abs _ _ (by omega) (by omega)).mono ?_
    rintro e w1 ⟨rfl, rfl⟩
    go_wp2_with fail
    refine (spec_out _ _).mono ?_
    rintro e w2 ⟨rfl, hb⟩
    simp only [moneyV]
    obtain ⟨hc, hf⟩ := bcell hb
    have hz : w.heap.size < w2.heap.size := by have := hb.size; simp at this; omega
    go_wp2_with fail
    refine bodyPost_ret (v := moneyV (timesB a b)) ?_ rfl ⟨rfl, ?_⟩
    · rw [HT.out]
      simp [results, Tryd.results33, go_sem, hc, moneyV]
    · have hbb : Below w.heap.size w w2 := ((Below.refl w.heap.size w).alloc (Nat.le_refl _) _).trans (hb.mono (by simp))
      repeat (first | exact hbb | refine Below.setCell ?_ (by exact Nat.le_refl _) _ | refine Below.alloc ?_ (by simp [World.setCell]; omega) _)


end Go.Proofs.YtnkklkbokpeanaaDoor
