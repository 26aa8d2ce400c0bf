/- What operators come to: the program. -/
import Derived.Test.YtnkklkbokpeanaaDoorOvA
namespace Go.Proofs.YtnkklkbokpeanaaDoor
open Go.RowKit

set_option maxRecDepth 100000 in
set_option maxHeartbeats 8000000 in
theorem impl_ov_no1 (s : ByteArray) (a b : Int) (ha : rightB a = false) (w : World) :
    Calls Tryd.prog 31 #[.string s, .int .i64 a, .int .i64 b] w fun e w' => e = .returned (tupV (opW s a b)) ∧ w' = w := by
  have HR : Hid (opW s a b = (0, 1)) := opW_no (by rw [ha]; rfl)
  have H : Hid (rightB a = false) := ha
  clear ha
  go_enter Tryd.func31, Tryd.ntmps31
  go_wp2_with fail
  refine (impl_right _ _).mono ?_
  rintro e w1 ⟨rfl, rfl⟩
  rw [H.out]
  go_wp2_with fail
  go_ret2
  refine ⟨?_, rfl⟩
  rw [HR.out, tupV_err _ _ (by decide)]; rfl
set_option maxRecDepth 100000 in
set_option maxHeartbeats 8000000 in
theorem impl_ov_no2 (s : ByteArray) (a b : Int) (ha : rightB a = true) (hb : rightB b = false) (w : World) :
    Calls Tryd.prog 31 #[.string s, .int .i64 a, .int .i64 b] w fun e w' => e = .returned (tupV (opW s a b)) ∧ w' = w := by
  have HR : Hid (opW s a b = (0, 1)) := opW_no (by rw [ha, hb]; rfl)
  have HA : Hid (rightB a = true) := ha
  have HB : Hid (rightB b = false) := hb
  clear ha hb
  go_enter Tryd.func31, Tryd.ntmps31
  go_wp2_with fail
  refine (impl_right _ _).mono ?_
  rintro e w1 ⟨rfl, rfl⟩
  rw [HA.out]
  go_wp2_with fail
  refine (impl_right _ _).mono ?_
  rintro e w1 ⟨rfl, rfl⟩
  rw [HB.out]
  go_wp2_with fail
  go_ret2
  refine ⟨?_, rfl⟩
  rw [HR.out, tupV_err _ _ (by decide)]; rfl
set_option maxRecDepth 100000 in
set_option maxHeartbeats 8000000 in
theorem impl_ov_plus (s : ByteArray) (a b : Int) (ha : rightB a = true) (hb : rightB b = true) (h0 : (s.toList == [43]) = true) (w : World) :
    Calls Tryd.prog 31 #[.string s, .int .i64 a, .int .i64 b] w fun e w' => e = .returned (tupV (opW s a b)) ∧ w' = w := by
  have HR : Hid (opW s a b = outB (a + b)) := opW_plus ha hb h0
  have HA : Hid (rightB a = true) := ha
  have HB : Hid (rightB b = true) := hb
  obtain ⟨a0, a1⟩ := (rightB_iff a).1 ha
  obtain ⟨b0, b1⟩ := (rightB_iff b).1 hb
  have HC : Hid (∀ W, Calls Tryd.prog 65 #[.int .i64 a, .int .i64 b] W fun e w' => e = .returned (tupV (outB (a + b))) ∧ w' = W) := fun W => by
    have h := impl_addM a b W
    have e : addB a b = outB (a + b) := by unfold addB; rw [if_pos (by rw [ha, hb]; rfl)]
    rw [e] at h
    exact h
  clear ha hb
  generalize outB (a + b) = r at *
  go_enter Tryd.func31, Tryd.ntmps31
  go_wp2_with fail
  refine (impl_right _ _).mono ?_
  rintro e w1 ⟨rfl, rfl⟩
  rw [HA.out]
  go_wp2_with fail
  refine (impl_right _ _).mono ?_
  rintro e w1 ⟨rfl, rfl⟩
  rw [HB.out]
  go_wp2_with fail
  refine (HC.out _).mono ?_
  rintro e w1 ⟨rfl, rfl⟩
  simp only [tupV]
  go_wp2_with fail
  go_ret2
  refine ⟨?_, rfl⟩
  rw [HR.out]
  rfl
set_option maxRecDepth 100000 in
set_option maxHeartbeats 8000000 in
theorem impl_ov_minus (s : ByteArray) (a b : Int) (ha : rightB a = true) (hb : rightB b = true) (h0 : (s.toList == [43]) = false) (h1 : (s.toList == [45]) = true) (w : World) :
    Calls Tryd.prog 31 #[.string s, .int .i64 a, .int .i64 b] w fun e w' => e = .returned (tupV (opW s a b)) ∧ w' = w := by
  have HR : Hid (opW s a b = outB (a - b)) := opW_minus ha hb h0 h1
  have HA : Hid (rightB a = true) := ha
  have HB : Hid (rightB b = true) := hb
  obtain ⟨a0, a1⟩ := (rightB_iff a).1 ha
  obtain ⟨b0, b1⟩ := (rightB_iff b).1 hb
  have HC : Hid (∀ W, Calls Tryd.prog 65 #[.int .i64 a, .int .i64 (-b)] W fun e w' => e = .returned (tupV (outB (a - b))) ∧ w' = W) := fun W => by
    have h := impl_addM a (-b) W
    have e : addB a (-b) = outB (a - b) := by unfold addB; rw [if_pos (by rw [ha, rightB_yes (by omega) (by omega)]; rfl)]; rw [Int.sub_eq_add_neg]
    rw [e] at h
    exact h
  clear ha hb
  generalize outB (a - b) = r at *
  go_enter Tryd.func31, Tryd.ntmps31
  go_wp2_with fail
  refine (impl_right _ _).mono ?_
  rintro e w1 ⟨rfl, rfl⟩
  rw [HA.out]
  go_wp2_with fail
  refine (impl_right _ _).mono ?_
  rintro e w1 ⟨rfl, rfl⟩
  rw [HB.out]
  go_wp2_with fail
  refine (HC.out _).mono ?_
  rintro e w1 ⟨rfl, rfl⟩
  simp only [tupV]
  go_wp2_with fail
  go_ret2
  refine ⟨?_, rfl⟩
  rw [HR.out]
  rfl
set_option maxRecDepth 100000 in
set_option maxHeartbeats 8000000 in
theorem impl_ov_times (s : ByteArray) (a b : Int) (ha : rightB a = true) (hb : rightB b = true) (h0 : (s.toList == [43]) = false) (h1 : (s.toList == [45]) = false) (h2 : (s.toList == [42]) = true) (w : World) :
    Calls Tryd.prog 31 #[.string s, .int .i64 a, .int .i64 b] w fun e w' => e = .returned (tupV (opW s a b)) ∧ w' = w := by
  have HR : Hid (opW s a b = timesB a b) := opW_times ha hb h0 h1 h2
  have HA : Hid (rightB a = true) := ha
  have HB : Hid (rightB b = true) := hb
  obtain ⟨a0, a1⟩ := (rightB_iff a).1 ha
  obtain ⟨b0, b1⟩ := (rightB_iff b).1 hb
  have HC : Hid (∀ W, Calls Tryd.prog 66 #[.int .i64 a, .int .i64 b] W fun e w' => e = .returned (tupV (timesB a b)) ∧ w' = W) := fun W => impl_timesM a b W (by omega) (by omega)
  clear ha hb
  generalize timesB a b = r at *
  go_enter Tryd.func31, Tryd.ntmps31
  go_wp2_with fail
  refine (impl_right _ _).mono ?_
  rintro e w1 ⟨rfl, rfl⟩
  rw [HA.out]
  go_wp2_with fail
  refine (impl_right _ _).mono ?_
  rintro e w1 ⟨rfl, rfl⟩
  rw [HB.out]
  go_wp2_with fail
  refine (HC.out _).mono ?_
  rintro e w1 ⟨rfl, rfl⟩
  simp only [tupV]
  go_wp2_with fail
  go_ret2
  refine ⟨?_, rfl⟩
  rw [HR.out]
  rfl
set_option maxRecDepth 100000 in
set_option maxHeartbeats 8000000 in
theorem impl_ov_less (s : ByteArray) (a b : Int) (ha : rightB a = true) (hb : rightB b = true) (h0 : (s.toList == [43]) = false) (h1 : (s.toList == [45]) = false) (h2 : (s.toList == [42]) = false) (h3 : (s.toList == [60]) = true) (w : World) :
    Calls Tryd.prog 31 #[.string s, .int .i64 a, .int .i64 b] w fun e w' => e = .returned (tupV (opW s a b)) ∧ w' = w := by
  have HR : Hid (opW s a b = oneI (decide (a < b))) := opW_less ha hb h0 h1 h2 h3
  have HA : Hid (rightB a = true) := ha
  have HB : Hid (rightB b = true) := hb
  obtain ⟨a0, a1⟩ := (rightB_iff a).1 ha
  obtain ⟨b0, b1⟩ := (rightB_iff b).1 hb
  by_cases c : a < b
  · have q : decide (a < b) = true := by simpa using c
    have HR2 : Hid (opW s a b = oneI true) := by have h := HR.out; rw [q] at h; exact h
    clear HR c ha hb
    go_enter Tryd.func31, Tryd.ntmps31
    go_wp2_with fail
    refine (impl_right _ _).mono ?_
    rintro e w1 ⟨rfl, rfl⟩
    rw [HA.out]
    go_wp2_with fail
    refine (impl_right _ _).mono ?_
    rintro e w1 ⟨rfl, rfl⟩
    rw [HB.out]
    go_wp2_with fail
    refine (impl_one _ _).mono ?_
    rintro e w1 ⟨rfl, rfl⟩
    go_wp2_with fail
    go_ret2
    refine ⟨?_, rfl⟩
    rw [HR2.out]
    rfl
  · have q : decide (a < b) = false := by simpa using c
    have HR2 : Hid (opW s a b = oneI false) := by have h := HR.out; rw [q] at h; exact h
    clear HR c ha hb
    go_enter Tryd.func31, Tryd.ntmps31
    go_wp2_with fail
    refine (impl_right _ _).mono ?_
    rintro e w1 ⟨rfl, rfl⟩
    rw [HA.out]
    go_wp2_with fail
    refine (impl_right _ _).mono ?_
    rintro e w1 ⟨rfl, rfl⟩
    rw [HB.out]
    go_wp2_with fail
    refine (impl_one _ _).mono ?_
    rintro e w1 ⟨rfl, rfl⟩
    go_wp2_with fail
    go_ret2
    refine ⟨?_, rfl⟩
    rw [HR2.out]
    rfl
set_option maxRecDepth 100000 in
set_option maxHeartbeats 8000000 in
theorem impl_ov_leq (s : ByteArray) (a b : Int) (ha : rightB a = true) (hb : rightB b = true) (h0 : (s.toList == [43]) = false) (h1 : (s.toList == [45]) = false) (h2 : (s.toList == [42]) = false) (h3 : (s.toList == [60]) = false) (h4 : (s.toList == [60, 61]) = true) (w : World) :
    Calls Tryd.prog 31 #[.string s, .int .i64 a, .int .i64 b] w fun e w' => e = .returned (tupV (opW s a b)) ∧ w' = w := by
  have HR : Hid (opW s a b = oneI (decide (a ≤ b))) := opW_leq ha hb h0 h1 h2 h3 h4
  have HA : Hid (rightB a = true) := ha
  have HB : Hid (rightB b = true) := hb
  obtain ⟨a0, a1⟩ := (rightB_iff a).1 ha
  obtain ⟨b0, b1⟩ := (rightB_iff b).1 hb
  by_cases c : a ≤ b
  · have q : decide (a ≤ b) = true := by simpa using c
    have HR2 : Hid (opW s a b = oneI true) := by have h := HR.out; rw [q] at h; exact h
    clear HR c ha hb
    go_enter Tryd.func31, Tryd.ntmps31
    go_wp2_with fail
    refine (impl_right _ _).mono ?_
    rintro e w1 ⟨rfl, rfl⟩
    rw [HA.out]
    go_wp2_with fail
    refine (impl_right _ _).mono ?_
    rintro e w1 ⟨rfl, rfl⟩
    rw [HB.out]
    go_wp2_with fail
    refine (impl_one _ _).mono ?_
    rintro e w1 ⟨rfl, rfl⟩
    go_wp2_with fail
    go_ret2
    refine ⟨?_, rfl⟩
    rw [HR2.out]
    rfl
  · have q : decide (a ≤ b) = false := by simpa using c
    have HR2 : Hid (opW s a b = oneI false) := by have h := HR.out; rw [q] at h; exact h
    clear HR c ha hb
    go_enter Tryd.func31, Tryd.ntmps31
    go_wp2_with fail
    refine (impl_right _ _).mono ?_
    rintro e w1 ⟨rfl, rfl⟩
    rw [HA.out]
    go_wp2_with fail
    refine (impl_right _ _).mono ?_
    rintro e w1 ⟨rfl, rfl⟩
    rw [HB.out]
    go_wp2_with fail
    refine (impl_one _ _).mono ?_
    rintro e w1 ⟨rfl, rfl⟩
    go_wp2_with fail
    go_ret2
    refine ⟨?_, rfl⟩
    rw [HR2.out]
    rfl
set_option maxRecDepth 100000 in
set_option maxHeartbeats 8000000 in
theorem impl_ov_same (s : ByteArray) (a b : Int) (ha : rightB a = true) (hb : rightB b = true) (h0 : (s.toList == [43]) = false) (h1 : (s.toList == [45]) = false) (h2 : (s.toList == [42]) = false) (h3 : (s.toList == [60]) = false) (h4 : (s.toList == [60, 61]) = false) (h5 : (s.toList == [61]) = true) (w : World) :
    Calls Tryd.prog 31 #[.string s, .int .i64 a, .int .i64 b] w fun e w' => e = .returned (tupV (opW s a b)) ∧ w' = w := by
  have HR : Hid (opW s a b = oneI (a == b)) := opW_same ha hb h0 h1 h2 h3 h4 h5
  have HA : Hid (rightB a = true) := ha
  have HB : Hid (rightB b = true) := hb
  obtain ⟨a0, a1⟩ := (rightB_iff a).1 ha
  obtain ⟨b0, b1⟩ := (rightB_iff b).1 hb
  by_cases c : a = b
  · have q : (a == b) = true := by simpa using c
    have HR2 : Hid (opW s a b = oneI true) := by have h := HR.out; rw [q] at h; exact h
    clear HR c ha hb
    go_enter Tryd.func31, Tryd.ntmps31
    go_wp2_with fail
    refine (impl_right _ _).mono ?_
    rintro e w1 ⟨rfl, rfl⟩
    rw [HA.out]
    go_wp2_with fail
    refine (impl_right _ _).mono ?_
    rintro e w1 ⟨rfl, rfl⟩
    rw [HB.out]
    go_wp2_with fail
    refine (impl_one _ _).mono ?_
    rintro e w1 ⟨rfl, rfl⟩
    go_wp2_with fail
    go_ret2
    refine ⟨?_, rfl⟩
    rw [HR2.out]
    rfl
  · have q : (a == b) = false := by simpa using c
    have HR2 : Hid (opW s a b = oneI false) := by have h := HR.out; rw [q] at h; exact h
    clear HR c ha hb
    go_enter Tryd.func31, Tryd.ntmps31
    go_wp2_with fail
    refine (impl_right _ _).mono ?_
    rintro e w1 ⟨rfl, rfl⟩
    rw [HA.out]
    go_wp2_with fail
    refine (impl_right _ _).mono ?_
    rintro e w1 ⟨rfl, rfl⟩
    rw [HB.out]
    go_wp2_with fail
    refine (impl_one _ _).mono ?_
    rintro e w1 ⟨rfl, rfl⟩
    go_wp2_with fail
    go_ret2
    refine ⟨?_, rfl⟩
    rw [HR2.out]
    rfl
set_option maxRecDepth 100000 in
set_option maxHeartbeats 8000000 in
theorem impl_ov_and (s : ByteArray) (a b : Int) (ha : rightB a = true) (hb : rightB b = true) (h0 : (s.toList == [43]) = false) (h1 : (s.toList == [45]) = false) (h2 : (s.toList == [42]) = false) (h3 : (s.toList == [60]) = false) (h4 : (s.toList == [60, 61]) = false) (h5 : (s.toList == [61]) = false) (h6 : (s.toList == [97, 110, 100]) = true) (w : World) :
    Calls Tryd.prog 31 #[.string s, .int .i64 a, .int .i64 b] w fun e w' => e = .returned (tupV (opW s a b)) ∧ w' = w := by
  have HR : Hid (opW s a b = oneI (a == 1 && b == 1)) := opW_and ha hb h0 h1 h2 h3 h4 h5 h6
  have HA : Hid (rightB a = true) := ha
  have HB : Hid (rightB b = true) := hb
  obtain ⟨a0, a1⟩ := (rightB_iff a).1 ha
  obtain ⟨b0, b1⟩ := (rightB_iff b).1 hb
  by_cases ca : a = 1
  · have q : (a == 1) = true := by simpa using ca
    by_cases cb : b = 1
    · have r : (b == 1) = true := by simpa using cb
      have HR2 : Hid (opW s a b = oneI true) := by have h := HR.out; rw [q, r] at h; exact h
      clear HR ca cb ha hb
      go_enter Tryd.func31, Tryd.ntmps31
      go_wp2_with fail
      refine (impl_right _ _).mono ?_
      rintro e w1 ⟨rfl, rfl⟩
      rw [HA.out]
      go_wp2_with fail
      refine (impl_right _ _).mono ?_
      rintro e w1 ⟨rfl, rfl⟩
      rw [HB.out]
      go_wp2_with fail
      refine (impl_one _ _).mono ?_
      rintro e w1 ⟨rfl, rfl⟩
      go_wp2_with fail
      go_ret2
      refine ⟨?_, rfl⟩
      rw [HR2.out]
      rfl
    · have r : (b == 1) = false := by simpa using cb
      have HR2 : Hid (opW s a b = oneI false) := by have h := HR.out; rw [q, r] at h; exact h
      clear HR ca cb ha hb
      go_enter Tryd.func31, Tryd.ntmps31
      go_wp2_with fail
      refine (impl_right _ _).mono ?_
      rintro e w1 ⟨rfl, rfl⟩
      rw [HA.out]
      go_wp2_with fail
      refine (impl_right _ _).mono ?_
      rintro e w1 ⟨rfl, rfl⟩
      rw [HB.out]
      go_wp2_with fail
      refine (impl_one _ _).mono ?_
      rintro e w1 ⟨rfl, rfl⟩
      go_wp2_with fail
      go_ret2
      refine ⟨?_, rfl⟩
      rw [HR2.out]
      rfl
  · have q : (a == 1) = false := by simpa using ca
    by_cases cb : b = 1
    · have r : (b == 1) = true := by simpa using cb
      have HR2 : Hid (opW s a b = oneI false) := by have h := HR.out; rw [q, r] at h; exact h
      clear HR ca cb ha hb
      go_enter Tryd.func31, Tryd.ntmps31
      go_wp2_with fail
      refine (impl_right _ _).mono ?_
      rintro e w1 ⟨rfl, rfl⟩
      rw [HA.out]
      go_wp2_with fail
      refine (impl_right _ _).mono ?_
      rintro e w1 ⟨rfl, rfl⟩
      rw [HB.out]
      go_wp2_with fail
      refine (impl_one _ _).mono ?_
      rintro e w1 ⟨rfl, rfl⟩
      go_wp2_with fail
      go_ret2
      refine ⟨?_, rfl⟩
      rw [HR2.out]
      rfl
    · have r : (b == 1) = false := by simpa using cb
      have HR2 : Hid (opW s a b = oneI false) := by have h := HR.out; rw [q, r] at h; exact h
      clear HR ca cb ha hb
      go_enter Tryd.func31, Tryd.ntmps31
      go_wp2_with fail
      refine (impl_right _ _).mono ?_
      rintro e w1 ⟨rfl, rfl⟩
      rw [HA.out]
      go_wp2_with fail
      refine (impl_right _ _).mono ?_
      rintro e w1 ⟨rfl, rfl⟩
      rw [HB.out]
      go_wp2_with fail
      refine (impl_one _ _).mono ?_
      rintro e w1 ⟨rfl, rfl⟩
      go_wp2_with fail
      go_ret2
      refine ⟨?_, rfl⟩
      rw [HR2.out]
      rfl
set_option maxRecDepth 100000 in
set_option maxHeartbeats 8000000 in
theorem impl_ov_or (s : ByteArray) (a b : Int) (ha : rightB a = true) (hb : rightB b = true) (h0 : (s.toList == [43]) = false) (h1 : (s.toList == [45]) = false) (h2 : (s.toList == [42]) = false) (h3 : (s.toList == [60]) = false) (h4 : (s.toList == [60, 61]) = false) (h5 : (s.toList == [61]) = false) (h6 : (s.toList == [97, 110, 100]) = false) (h7 : (s.toList == [111, 114]) = true) (w : World) :
    Calls Tryd.prog 31 #[.string s, .int .i64 a, .int .i64 b] w fun e w' => e = .returned (tupV (opW s a b)) ∧ w' = w := by
  have HR : Hid (opW s a b = oneI (a == 1 || b == 1)) := opW_or ha hb h0 h1 h2 h3 h4 h5 h6 h7
  have HA : Hid (rightB a = true) := ha
  have HB : Hid (rightB b = true) := hb
  obtain ⟨a0, a1⟩ := (rightB_iff a).1 ha
  obtain ⟨b0, b1⟩ := (rightB_iff b).1 hb
  by_cases ca : a = 1
  · have q : (a == 1) = true := by simpa using ca
    by_cases cb : b = 1
    · have r : (b == 1) = true := by simpa using cb
      have HR2 : Hid (opW s a b = oneI true) := by have h := HR.out; rw [q, r] at h; exact h
      clear HR ca cb ha hb
      go_enter Tryd.func31, Tryd.ntmps31
      go_wp2_with fail
      refine (impl_right _ _).mono ?_
      rintro e w1 ⟨rfl, rfl⟩
      rw [HA.out]
      go_wp2_with fail
      refine (impl_right _ _).mono ?_
      rintro e w1 ⟨rfl, rfl⟩
      rw [HB.out]
      go_wp2_with fail
      refine (impl_one _ _).mono ?_
      rintro e w1 ⟨rfl, rfl⟩
      go_wp2_with fail
      go_ret2
      refine ⟨?_, rfl⟩
      rw [HR2.out]
      rfl
    · have r : (b == 1) = false := by simpa using cb
      have HR2 : Hid (opW s a b = oneI true) := by have h := HR.out; rw [q, r] at h; exact h
      clear HR ca cb ha hb
      go_enter Tryd.func31, Tryd.ntmps31
      go_wp2_with fail
      refine (impl_right _ _).mono ?_
      rintro e w1 ⟨rfl, rfl⟩
      rw [HA.out]
      go_wp2_with fail
      refine (impl_right _ _).mono ?_
      rintro e w1 ⟨rfl, rfl⟩
      rw [HB.out]
      go_wp2_with fail
      refine (impl_one _ _).mono ?_
      rintro e w1 ⟨rfl, rfl⟩
      go_wp2_with fail
      go_ret2
      refine ⟨?_, rfl⟩
      rw [HR2.out]
      rfl
  · have q : (a == 1) = false := by simpa using ca
    by_cases cb : b = 1
    · have r : (b == 1) = true := by simpa using cb
      have HR2 : Hid (opW s a b = oneI true) := by have h := HR.out; rw [q, r] at h; exact h
      clear HR ca cb ha hb
      go_enter Tryd.func31, Tryd.ntmps31
      go_wp2_with fail
      refine (impl_right _ _).mono ?_
      rintro e w1 ⟨rfl, rfl⟩
      rw [HA.out]
      go_wp2_with fail
      refine (impl_right _ _).mono ?_
      rintro e w1 ⟨rfl, rfl⟩
      rw [HB.out]
      go_wp2_with fail
      refine (impl_one _ _).mono ?_
      rintro e w1 ⟨rfl, rfl⟩
      go_wp2_with fail
      go_ret2
      refine ⟨?_, rfl⟩
      rw [HR2.out]
      rfl
    · have r : (b == 1) = false := by simpa using cb
      have HR2 : Hid (opW s a b = oneI false) := by have h := HR.out; rw [q, r] at h; exact h
      clear HR ca cb ha hb
      go_enter Tryd.func31, Tryd.ntmps31
      go_wp2_with fail
      refine (impl_right _ _).mono ?_
      rintro e w1 ⟨rfl, rfl⟩
      rw [HA.out]
      go_wp2_with fail
      refine (impl_right _ _).mono ?_
      rintro e w1 ⟨rfl, rfl⟩
      rw [HB.out]
      go_wp2_with fail
      refine (impl_one _ _).mono ?_
      rintro e w1 ⟨rfl, rfl⟩
      go_wp2_with fail
      go_ret2
      refine ⟨?_, rfl⟩
      rw [HR2.out]
      rfl
set_option maxRecDepth 100000 in
set_option maxHeartbeats 8000000 in
theorem impl_ov_none (s : ByteArray) (a b : Int) (ha : rightB a = true) (hb : rightB b = true) (h0 : (s.toList == [43]) = false) (h1 : (s.toList == [45]) = false) (h2 : (s.toList == [42]) = false) (h3 : (s.toList == [60]) = false) (h4 : (s.toList == [60, 61]) = false) (h5 : (s.toList == [61]) = false) (h6 : (s.toList == [97, 110, 100]) = false) (h7 : (s.toList == [111, 114]) = false) (w : World) :
    Calls Tryd.prog 31 #[.string s, .int .i64 a, .int .i64 b] w fun e w' => e = .returned (tupV (opW s a b)) ∧ w' = w := by
  have HR : Hid (opW s a b = (0, 6)) := opW_none ha hb h0 h1 h2 h3 h4 h5 h6 h7
  have HA : Hid (rightB a = true) := ha
  have HB : Hid (rightB b = true) := hb
  obtain ⟨a0, a1⟩ := (rightB_iff a).1 ha
  obtain ⟨b0, b1⟩ := (rightB_iff b).1 hb
  clear ha hb
  go_enter Tryd.func31, Tryd.ntmps31
  go_wp2_with fail
  refine (impl_right _ _).mono ?_
  rintro e w1 ⟨rfl, rfl⟩
  rw [HA.out]
  go_wp2_with fail
  refine (impl_right _ _).mono ?_
  rintro e w1 ⟨rfl, rfl⟩
  rw [HB.out]
  go_wp2_with fail
  go_ret2
  refine ⟨?_, rfl⟩
  rw [HR.out, tupV_err _ _ (by decide)]; rfl
theorem impl_opW (s : ByteArray) (a b : Int) (w : World) :
    Calls Tryd.prog 31 #[.string s, .int .i64 a, .int .i64 b] w fun e w' => e = .returned (tupV (opW s a b)) ∧ w' = w := by
  cases ha : rightB a
  · exact impl_ov_no1 s a b ha w
  cases hb : rightB b
  · exact impl_ov_no2 s a b ha hb w
  cases h0 : (s.toList == [43])
  rotate_left
  · exact impl_ov_plus s a b ha hb h0 w
  cases h1 : (s.toList == [45])
  rotate_left
  · exact impl_ov_minus s a b ha hb h0 h1 w
  cases h2 : (s.toList == [42])
  rotate_left
  · exact impl_ov_times s a b ha hb h0 h1 h2 w
  cases h3 : (s.toList == [60])
  rotate_left
  · exact impl_ov_less s a b ha hb h0 h1 h2 h3 w
  cases h4 : (s.toList == [60, 61])
  rotate_left
  · exact impl_ov_leq s a b ha hb h0 h1 h2 h3 h4 w
  cases h5 : (s.toList == [61])
  rotate_left
  · exact impl_ov_same s a b ha hb h0 h1 h2 h3 h4 h5 w
  cases h6 : (s.toList == [97, 110, 100])
  rotate_left
  · exact impl_ov_and s a b ha hb h0 h1 h2 h3 h4 h5 h6 w
  cases h7 : (s.toList == [111, 114])
  rotate_left
  · exact impl_ov_or s a b ha hb h0 h1 h2 h3 h4 h5 h6 h7 w
  exact impl_ov_none s a b ha hb h0 h1 h2 h3 h4 h5 h6 h7 w
set_option maxRecDepth 100000 in
set_option maxHeartbeats 8000000 in
theorem impl_opV (s : ByteArray) (a b : Int) (hs : s.size ≤ 1048576) (w : World) (hL : Lay w) :
    Calls Tryd.prog 8 #[.string s, .int .i64 a, .int .i64 b] w fun e w' => e = .returned (moneyV (opV s a b)) ∧ Below w.heap.size w w' := by
  by_cases h2 : 20000 < s.size
  · have HR : Hid (opV s a b = (0, 2)) := by show _ = _; unfold opV; rw [if_pos h2]
    have q0 : decide (20000 < s.size) = true := by simpa using h2
    have q1 : decide ((20000 : Int) < (s.size : Int)) = true := by simp; omega
    go_enter Tryd.func8, Tryd.ntmps8
    go_wp2_with fail
    refine bodyPost_ret (v := moneyV (0, 2)) ?_ rfl ⟨by rw [HR.out], ?_⟩
    · simp [results, Tryd.results8, go_sem, moneyV]
    · repeat (first | exact Below.refl _ _ | refine Below.setCell ?_ (by exact Nat.le_refl _) _ | refine Below.alloc ?_ (by simp) _)
  have q0 : decide (20000 < s.size) = false := by simpa using h2
  have q1 : decide ((20000 : Int) < (s.size : Int)) = false := by simp; omega
  have HE : Hid (opV s a b = opW s a b) := by show _ = _; unfold opV; rw [if_neg h2]
  rw [HE.out]
  clear HE h2
  have HZ : Hid ((opW s a b).2 ≠ 0 → (opW s a b).1 = 0) := opW_zero s a b
  have H1 : Hid (∀ w, Calls Tryd.prog 31 #[.string s, .int .i64 a, .int .i64 b] w fun e w' => e = .returned (tupV (opW s a b)) ∧ w' = w) := fun w => impl_opW s a b w
  generalize opW s a b = r at *
  have HL : Hid (Lay w) := hL
  clear hL
  go_enter Tryd.func8, Tryd.ntmps8
  go_wp2_with fail
  refine (H1.out _).mono ?_
  rintro e w1 ⟨rfl, rfl⟩
  simp only [tupV]
  go_wp2_with fail
  refine (out_any r HZ.out _ (by exact HL.out.below ((Below.refl _ _).alloc (Nat.le_refl _) _))).mono ?_
  rintro e w2 ⟨rfl, hb⟩
  simp only [moneyV]
  obtain ⟨hc, hf⟩ := bcell hb
  have hz : w.heap.size < w2.heap.size := by have := hb.size; simp at this; omega
  go_wp2_with fail
  refine bodyPost_ret (v := moneyV r) ?_ rfl ⟨rfl, ?_⟩
  · simp [results, Tryd.results8, go_sem, hc, moneyV]
  · have hbb : Below w.heap.size w w2 := ((Below.refl w.heap.size w).alloc (Nat.le_refl _) _).trans (hb.mono (by simp))
    repeat (first | exact hbb | refine Below.setCell ?_ (by exact Nat.le_refl _) _ | refine Below.alloc ?_ (by simp [World.setCell]; omega) _)
end Go.Proofs.YtnkklkbokpeanaaDoor
