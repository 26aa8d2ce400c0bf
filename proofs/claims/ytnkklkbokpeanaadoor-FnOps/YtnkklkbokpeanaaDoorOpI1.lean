/- The types of operators: the program. -/
import Derived.Test.YtnkklkbokpeanaaDoorOpA
namespace Go.Proofs.YtnkklkbokpeanaaDoor
open Go.RowKit
open Go.Proofs.YtnkklkbokpeanaaDoor.Draw

set_option maxRecDepth 100000 in
set_option maxHeartbeats 8000000 in
theorem impl_op_plus (s : ByteArray) (a b : Int) (h0 : (s.toList == [43]) = true) (w : World) :
    Calls Tryd.prog 10 #[.string s, .int .i64 a, .int .i64 b] w fun e w' => e = .returned (.int .i64 (opT s a b)) ∧ w' = w := by
  obtain hc | hc | hc | hc | hc | hc | hc | hc | hc | hc | hc | hc | hc : (a < 1 ∧ a = b) ∨ (a < 1 ∧ ¬ a = b) ∨ (a = 1 ∧ b = 1) ∨ (a = 1 ∧ ¬ b = 1) ∨ (a = 2 ∧ b = 2) ∨ (a = 2 ∧ b = 1) ∨ (a = 2 ∧ ¬ b = 2 ∧ ¬ b = 1) ∨ ((a = 3 ∨ a = 4) ∧ a = b) ∨ ((a = 3 ∨ a = 4) ∧ ¬ a = b) ∨ (a = 5 ∧ b = 5) ∨ (a = 5 ∧ ¬ b = 5) ∨ (5 < a ∧ a = b) ∨ (5 < a ∧ ¬ a = b) := by omega
  · obtain ⟨hr, rfl⟩ := hc
    have u1 : (a == a) = true := by simp
    have v1 : (a == 1) = false := beq_eq_false_iff_ne.2 (by omega)
    have v2 : (a == 2) = false := beq_eq_false_iff_ne.2 (by omega)
    have v5 : (a == 5) = false := beq_eq_false_iff_ne.2 (by omega)
    have x5 : (a != 5) = true := by simp; omega
    have v3 : decide (1 ≤ a) = false := by simp; omega
    have v4 : decide (a ≤ 5) = true := by simp; omega
    have HF : Hid (opT s a a = 0) := by show opT s a a = 0; unfold opT; rw [h0]; rw [if_pos (by simp), if_neg (by omega)]
    have HR : Hid (a < 1) := hr
    clear hr
    go_enter Tryd.func10, Tryd.ntmps10
    go_wp2_with fail
    refine (impl_cnt a false (by have := HR.out; simp; omega) _).mono ?_
    rintro e w1 ⟨rfl, rfl⟩
    go_wp2_with fail
    go_ret
    exact ⟨ret_int HF.out.symm, rfl⟩
  · obtain ⟨hr, hne⟩ := hc
    have u1 : (a == b) = false := beq_eq_false_iff_ne.2 hne
    have v1 : (a == 1) = false := beq_eq_false_iff_ne.2 (by omega)
    have v2 : (a == 2) = false := beq_eq_false_iff_ne.2 (by omega)
    have v5 : (a == 5) = false := beq_eq_false_iff_ne.2 (by omega)
    have x5 : (a != 5) = true := by simp; omega
    have v3 : decide (1 ≤ a) = false := by simp; omega
    have v4 : decide (a ≤ 5) = true := by simp; omega
    have HF : Hid (opT s a b = 0) := by show opT s a b = 0; unfold opT; rw [h0]; rw [if_pos (by simp), if_neg (by omega)]
    have HR : Hid (a < 1) := hr
    clear hr
    go_enter Tryd.func10, Tryd.ntmps10
    go_wp2_with fail
    go_ret
    exact ⟨ret_int HF.out.symm, rfl⟩
  · obtain ⟨rfl, rfl⟩ := hc
    have HF : Hid (opT s 1 1 = 1) := by show opT s 1 1 = 1; unfold opT; rw [h0]; rw [if_pos (by simp), if_pos (by omega)]
    go_enter Tryd.func10, Tryd.ntmps10
    go_wp2_with fail
    refine (impl_cnt 1 true (by decide) _).mono ?_
    rintro e w1 ⟨rfl, rfl⟩
    go_wp2_with fail
    go_ret
    exact ⟨ret_int HF.out.symm, rfl⟩
  · obtain ⟨rfl, hne⟩ := hc
    have u1 : ((1 : Int) == b) = false := beq_eq_false_iff_ne.2 (by omega)
    have u2 : (b == 1) = false := beq_eq_false_iff_ne.2 hne
    have HF : Hid (opT s 1 b = 0) := by show opT s 1 b = 0; unfold opT; rw [h0]; rw [if_pos (by simp), if_neg (by omega)]
    go_enter Tryd.func10, Tryd.ntmps10
    go_wp2_with fail
    go_ret
    exact ⟨ret_int HF.out.symm, rfl⟩
  · obtain ⟨rfl, rfl⟩ := hc
    have HF : Hid (opT s 2 2 = 2) := by show opT s 2 2 = 2; unfold opT; rw [h0]; rw [if_pos (by simp), if_pos (by omega)]
    go_enter Tryd.func10, Tryd.ntmps10
    go_wp2_with fail
    refine (impl_cnt 2 true (by decide) _).mono ?_
    rintro e w1 ⟨rfl, rfl⟩
    go_wp2_with fail
    go_ret
    exact ⟨ret_int HF.out.symm, rfl⟩
  · obtain ⟨rfl, rfl⟩ := hc
    have HF : Hid (opT s 2 1 = 0) := by show opT s 2 1 = 0; unfold opT; rw [h0]; rw [if_pos (by simp), if_neg (by omega)]
    go_enter Tryd.func10, Tryd.ntmps10
    go_wp2_with fail
    go_ret
    exact ⟨ret_int HF.out.symm, rfl⟩
  · obtain ⟨rfl, hne, hne'⟩ := hc
    have u1 : ((2 : Int) == b) = false := beq_eq_false_iff_ne.2 (by omega)
    have u2 : (b == 1) = false := beq_eq_false_iff_ne.2 hne'
    have HF : Hid (opT s 2 b = 0) := by show opT s 2 b = 0; unfold opT; rw [h0]; rw [if_pos (by simp), if_neg (by omega)]
    go_enter Tryd.func10, Tryd.ntmps10
    go_wp2_with fail
    go_ret
    exact ⟨ret_int HF.out.symm, rfl⟩
  · obtain ⟨hr, rfl⟩ := hc
    have u1 : (a == a) = true := by simp
    have v1 : (a == 1) = false := beq_eq_false_iff_ne.2 (by omega)
    have v2 : (a == 2) = false := beq_eq_false_iff_ne.2 (by omega)
    have v5 : (a == 5) = false := beq_eq_false_iff_ne.2 (by omega)
    have x5 : (a != 5) = true := by simp; omega
    have v3 : decide (1 ≤ a) = true := by simp; omega
    have v4 : decide (a ≤ 5) = true := by simp; omega
    have HF : Hid (opT s a a = 0) := by show opT s a a = 0; unfold opT; rw [h0]; rw [if_pos (by simp), if_neg (by omega)]
    have HR : Hid (a = 3 ∨ a = 4) := hr
    clear hr
    go_enter Tryd.func10, Tryd.ntmps10
    go_wp2_with fail
    refine (impl_cnt a false (by have := HR.out; simp; omega) _).mono ?_
    rintro e w1 ⟨rfl, rfl⟩
    go_wp2_with fail
    go_ret
    exact ⟨ret_int HF.out.symm, rfl⟩
  · obtain ⟨hr, hne⟩ := hc
    have u1 : (a == b) = false := beq_eq_false_iff_ne.2 hne
    have v1 : (a == 1) = false := beq_eq_false_iff_ne.2 (by omega)
    have v2 : (a == 2) = false := beq_eq_false_iff_ne.2 (by omega)
    have v5 : (a == 5) = false := beq_eq_false_iff_ne.2 (by omega)
    have x5 : (a != 5) = true := by simp; omega
    have v3 : decide (1 ≤ a) = true := by simp; omega
    have v4 : decide (a ≤ 5) = true := by simp; omega
    have HF : Hid (opT s a b = 0) := by show opT s a b = 0; unfold opT; rw [h0]; rw [if_pos (by simp), if_neg (by omega)]
    have HR : Hid (a = 3 ∨ a = 4) := hr
    clear hr
    go_enter Tryd.func10, Tryd.ntmps10
    go_wp2_with fail
    go_ret
    exact ⟨ret_int HF.out.symm, rfl⟩
  · obtain ⟨rfl, rfl⟩ := hc
    have HF : Hid (opT s 5 5 = 0) := by show opT s 5 5 = 0; unfold opT; rw [h0]; rw [if_pos (by simp), if_neg (by omega)]
    go_enter Tryd.func10, Tryd.ntmps10
    go_wp2_with fail
    refine (impl_cnt 5 false (by decide) _).mono ?_
    rintro e w1 ⟨rfl, rfl⟩
    go_wp2_with fail
    go_ret
    exact ⟨ret_int HF.out.symm, rfl⟩
  · obtain ⟨rfl, hne⟩ := hc
    have u1 : ((5 : Int) == b) = false := beq_eq_false_iff_ne.2 (by omega)
    have u2 : (b == 5) = false := beq_eq_false_iff_ne.2 hne
    have HF : Hid (opT s 5 b = 0) := by show opT s 5 b = 0; unfold opT; rw [h0]; rw [if_pos (by simp), if_neg (by omega)]
    go_enter Tryd.func10, Tryd.ntmps10
    go_wp2_with fail
    go_ret
    exact ⟨ret_int HF.out.symm, rfl⟩
  · obtain ⟨hr, rfl⟩ := hc
    have u1 : (a == a) = true := by simp
    have v1 : (a == 1) = false := beq_eq_false_iff_ne.2 (by omega)
    have v2 : (a == 2) = false := beq_eq_false_iff_ne.2 (by omega)
    have v5 : (a == 5) = false := beq_eq_false_iff_ne.2 (by omega)
    have x5 : (a != 5) = true := by simp; omega
    have v3 : decide (1 ≤ a) = true := by simp; omega
    have v4 : decide (a ≤ 5) = false := by simp; omega
    have HF : Hid (opT s a a = 0) := by show opT s a a = 0; unfold opT; rw [h0]; rw [if_pos (by simp), if_neg (by omega)]
    have HR : Hid (5 < a) := hr
    clear hr
    go_enter Tryd.func10, Tryd.ntmps10
    go_wp2_with fail
    refine (impl_cnt a false (by have := HR.out; simp; omega) _).mono ?_
    rintro e w1 ⟨rfl, rfl⟩
    go_wp2_with fail
    go_ret
    exact ⟨ret_int HF.out.symm, rfl⟩
  · obtain ⟨hr, hne⟩ := hc
    have u1 : (a == b) = false := beq_eq_false_iff_ne.2 hne
    have v1 : (a == 1) = false := beq_eq_false_iff_ne.2 (by omega)
    have v2 : (a == 2) = false := beq_eq_false_iff_ne.2 (by omega)
    have v5 : (a == 5) = false := beq_eq_false_iff_ne.2 (by omega)
    have x5 : (a != 5) = true := by simp; omega
    have v3 : decide (1 ≤ a) = true := by simp; omega
    have v4 : decide (a ≤ 5) = false := by simp; omega
    have HF : Hid (opT s a b = 0) := by show opT s a b = 0; unfold opT; rw [h0]; rw [if_pos (by simp), if_neg (by omega)]
    have HR : Hid (5 < a) := hr
    clear hr
    go_enter Tryd.func10, Tryd.ntmps10
    go_wp2_with fail
    go_ret
    exact ⟨ret_int HF.out.symm, rfl⟩
set_option maxRecDepth 100000 in
set_option maxHeartbeats 8000000 in
theorem impl_op_minus (s : ByteArray) (a b : Int) (h0 : (s.toList == [43]) = false) (h1 : (s.toList == [45]) = true) (w : World) :
    Calls Tryd.prog 10 #[.string s, .int .i64 a, .int .i64 b] w fun e w' => e = .returned (.int .i64 (opT s a b)) ∧ w' = w := by
  obtain hc | hc | hc | hc | hc | hc | hc | hc | hc | hc | hc | hc | hc : (a < 1 ∧ a = b) ∨ (a < 1 ∧ ¬ a = b) ∨ (a = 1 ∧ b = 1) ∨ (a = 1 ∧ ¬ b = 1) ∨ (a = 2 ∧ b = 2) ∨ (a = 2 ∧ b = 1) ∨ (a = 2 ∧ ¬ b = 2 ∧ ¬ b = 1) ∨ ((a = 3 ∨ a = 4) ∧ a = b) ∨ ((a = 3 ∨ a = 4) ∧ ¬ a = b) ∨ (a = 5 ∧ b = 5) ∨ (a = 5 ∧ ¬ b = 5) ∨ (5 < a ∧ a = b) ∨ (5 < a ∧ ¬ a = b) := by omega
  · obtain ⟨hr, rfl⟩ := hc
    have u1 : (a == a) = true := by simp
    have v1 : (a == 1) = false := beq_eq_false_iff_ne.2 (by omega)
    have v2 : (a == 2) = false := beq_eq_false_iff_ne.2 (by omega)
    have v5 : (a == 5) = false := beq_eq_false_iff_ne.2 (by omega)
    have x5 : (a != 5) = true := by simp; omega
    have v3 : decide (1 ≤ a) = false := by simp; omega
    have v4 : decide (a ≤ 5) = true := by simp; omega
    have HF : Hid (opT s a a = 0) := by show opT s a a = 0; unfold opT; rw [h0, h1]; rw [if_pos (by simp), if_neg (by omega)]
    have HR : Hid (a < 1) := hr
    clear hr
    go_enter Tryd.func10, Tryd.ntmps10
    go_wp2_with fail
    refine (impl_cnt a false (by have := HR.out; simp; omega) _).mono ?_
    rintro e w1 ⟨rfl, rfl⟩
    go_wp2_with fail
    go_ret
    exact ⟨ret_int HF.out.symm, rfl⟩
  · obtain ⟨hr, hne⟩ := hc
    have u1 : (a == b) = false := beq_eq_false_iff_ne.2 hne
    have v1 : (a == 1) = false := beq_eq_false_iff_ne.2 (by omega)
    have v2 : (a == 2) = false := beq_eq_false_iff_ne.2 (by omega)
    have v5 : (a == 5) = false := beq_eq_false_iff_ne.2 (by omega)
    have x5 : (a != 5) = true := by simp; omega
    have v3 : decide (1 ≤ a) = false := by simp; omega
    have v4 : decide (a ≤ 5) = true := by simp; omega
    have HF : Hid (opT s a b = 0) := by show opT s a b = 0; unfold opT; rw [h0, h1]; rw [if_pos (by simp), if_neg (by omega)]
    have HR : Hid (a < 1) := hr
    clear hr
    go_enter Tryd.func10, Tryd.ntmps10
    go_wp2_with fail
    go_ret
    exact ⟨ret_int HF.out.symm, rfl⟩
  · obtain ⟨rfl, rfl⟩ := hc
    have HF : Hid (opT s 1 1 = 1) := by show opT s 1 1 = 1; unfold opT; rw [h0, h1]; rw [if_pos (by simp), if_pos (by omega)]
    go_enter Tryd.func10, Tryd.ntmps10
    go_wp2_with fail
    refine (impl_cnt 1 true (by decide) _).mono ?_
    rintro e w1 ⟨rfl, rfl⟩
    go_wp2_with fail
    go_ret
    exact ⟨ret_int HF.out.symm, rfl⟩
  · obtain ⟨rfl, hne⟩ := hc
    have u1 : ((1 : Int) == b) = false := beq_eq_false_iff_ne.2 (by omega)
    have u2 : (b == 1) = false := beq_eq_false_iff_ne.2 hne
    have HF : Hid (opT s 1 b = 0) := by show opT s 1 b = 0; unfold opT; rw [h0, h1]; rw [if_pos (by simp), if_neg (by omega)]
    go_enter Tryd.func10, Tryd.ntmps10
    go_wp2_with fail
    go_ret
    exact ⟨ret_int HF.out.symm, rfl⟩
  · obtain ⟨rfl, rfl⟩ := hc
    have HF : Hid (opT s 2 2 = 2) := by show opT s 2 2 = 2; unfold opT; rw [h0, h1]; rw [if_pos (by simp), if_pos (by omega)]
    go_enter Tryd.func10, Tryd.ntmps10
    go_wp2_with fail
    refine (impl_cnt 2 true (by decide) _).mono ?_
    rintro e w1 ⟨rfl, rfl⟩
    go_wp2_with fail
    go_ret
    exact ⟨ret_int HF.out.symm, rfl⟩
  · obtain ⟨rfl, rfl⟩ := hc
    have HF : Hid (opT s 2 1 = 0) := by show opT s 2 1 = 0; unfold opT; rw [h0, h1]; rw [if_pos (by simp), if_neg (by omega)]
    go_enter Tryd.func10, Tryd.ntmps10
    go_wp2_with fail
    go_ret
    exact ⟨ret_int HF.out.symm, rfl⟩
  · obtain ⟨rfl, hne, hne'⟩ := hc
    have u1 : ((2 : Int) == b) = false := beq_eq_false_iff_ne.2 (by omega)
    have u2 : (b == 1) = false := beq_eq_false_iff_ne.2 hne'
    have HF : Hid (opT s 2 b = 0) := by show opT s 2 b = 0; unfold opT; rw [h0, h1]; rw [if_pos (by simp), if_neg (by omega)]
    go_enter Tryd.func10, Tryd.ntmps10
    go_wp2_with fail
    go_ret
    exact ⟨ret_int HF.out.symm, rfl⟩
  · obtain ⟨hr, rfl⟩ := hc
    have u1 : (a == a) = true := by simp
    have v1 : (a == 1) = false := beq_eq_false_iff_ne.2 (by omega)
    have v2 : (a == 2) = false := beq_eq_false_iff_ne.2 (by omega)
    have v5 : (a == 5) = false := beq_eq_false_iff_ne.2 (by omega)
    have x5 : (a != 5) = true := by simp; omega
    have v3 : decide (1 ≤ a) = true := by simp; omega
    have v4 : decide (a ≤ 5) = true := by simp; omega
    have HF : Hid (opT s a a = 0) := by show opT s a a = 0; unfold opT; rw [h0, h1]; rw [if_pos (by simp), if_neg (by omega)]
    have HR : Hid (a = 3 ∨ a = 4) := hr
    clear hr
    go_enter Tryd.func10, Tryd.ntmps10
    go_wp2_with fail
    refine (impl_cnt a false (by have := HR.out; simp; omega) _).mono ?_
    rintro e w1 ⟨rfl, rfl⟩
    go_wp2_with fail
    go_ret
    exact ⟨ret_int HF.out.symm, rfl⟩
  · obtain ⟨hr, hne⟩ := hc
    have u1 : (a == b) = false := beq_eq_false_iff_ne.2 hne
    have v1 : (a == 1) = false := beq_eq_false_iff_ne.2 (by omega)
    have v2 : (a == 2) = false := beq_eq_false_iff_ne.2 (by omega)
    have v5 : (a == 5) = false := beq_eq_false_iff_ne.2 (by omega)
    have x5 : (a != 5) = true := by simp; omega
    have v3 : decide (1 ≤ a) = true := by simp; omega
    have v4 : decide (a ≤ 5) = true := by simp; omega
    have HF : Hid (opT s a b = 0) := by show opT s a b = 0; unfold opT; rw [h0, h1]; rw [if_pos (by simp), if_neg (by omega)]
    have HR : Hid (a = 3 ∨ a = 4) := hr
    clear hr
    go_enter Tryd.func10, Tryd.ntmps10
    go_wp2_with fail
    go_ret
    exact ⟨ret_int HF.out.symm, rfl⟩
  · obtain ⟨rfl, rfl⟩ := hc
    have HF : Hid (opT s 5 5 = 0) := by show opT s 5 5 = 0; unfold opT; rw [h0, h1]; rw [if_pos (by simp), if_neg (by omega)]
    go_enter Tryd.func10, Tryd.ntmps10
    go_wp2_with fail
    refine (impl_cnt 5 false (by decide) _).mono ?_
    rintro e w1 ⟨rfl, rfl⟩
    go_wp2_with fail
    go_ret
    exact ⟨ret_int HF.out.symm, rfl⟩
  · obtain ⟨rfl, hne⟩ := hc
    have u1 : ((5 : Int) == b) = false := beq_eq_false_iff_ne.2 (by omega)
    have u2 : (b == 5) = false := beq_eq_false_iff_ne.2 hne
    have HF : Hid (opT s 5 b = 0) := by show opT s 5 b = 0; unfold opT; rw [h0, h1]; rw [if_pos (by simp), if_neg (by omega)]
    go_enter Tryd.func10, Tryd.ntmps10
    go_wp2_with fail
    go_ret
    exact ⟨ret_int HF.out.symm, rfl⟩
  · obtain ⟨hr, rfl⟩ := hc
    have u1 : (a == a) = true := by simp
    have v1 : (a == 1) = false := beq_eq_false_iff_ne.2 (by omega)
    have v2 : (a == 2) = false := beq_eq_false_iff_ne.2 (by omega)
    have v5 : (a == 5) = false := beq_eq_false_iff_ne.2 (by omega)
    have x5 : (a != 5) = true := by simp; omega
    have v3 : decide (1 ≤ a) = true := by simp; omega
    have v4 : decide (a ≤ 5) = false := by simp; omega
    have HF : Hid (opT s a a = 0) := by show opT s a a = 0; unfold opT; rw [h0, h1]; rw [if_pos (by simp), if_neg (by omega)]
    have HR : Hid (5 < a) := hr
    clear hr
    go_enter Tryd.func10, Tryd.ntmps10
    go_wp2_with fail
    refine (impl_cnt a false (by have := HR.out; simp; omega) _).mono ?_
    rintro e w1 ⟨rfl, rfl⟩
    go_wp2_with fail
    go_ret
    exact ⟨ret_int HF.out.symm, rfl⟩
  · obtain ⟨hr, hne⟩ := hc
    have u1 : (a == b) = false := beq_eq_false_iff_ne.2 hne
    have v1 : (a == 1) = false := beq_eq_false_iff_ne.2 (by omega)
    have v2 : (a == 2) = false := beq_eq_false_iff_ne.2 (by omega)
    have v5 : (a == 5) = false := beq_eq_false_iff_ne.2 (by omega)
    have x5 : (a != 5) = true := by simp; omega
    have v3 : decide (1 ≤ a) = true := by simp; omega
    have v4 : decide (a ≤ 5) = false := by simp; omega
    have HF : Hid (opT s a b = 0) := by show opT s a b = 0; unfold opT; rw [h0, h1]; rw [if_pos (by simp), if_neg (by omega)]
    have HR : Hid (5 < a) := hr
    clear hr
    go_enter Tryd.func10, Tryd.ntmps10
    go_wp2_with fail
    go_ret
    exact ⟨ret_int HF.out.symm, rfl⟩
set_option maxRecDepth 100000 in
set_option maxHeartbeats 8000000 in
theorem impl_op_times (s : ByteArray) (a b : Int) (h0 : (s.toList == [43]) = false) (h1 : (s.toList == [45]) = false) (h2 : (s.toList == [42]) = true) (w : World) :
    Calls Tryd.prog 10 #[.string s, .int .i64 a, .int .i64 b] w fun e w' => e = .returned (.int .i64 (opT s a b)) ∧ w' = w := by
  obtain hc | hc | hc | hc | hc | hc | hc | hc | hc | hc | hc | hc | hc : (a < 1 ∧ a = b) ∨ (a < 1 ∧ ¬ a = b) ∨ (a = 1 ∧ b = 1) ∨ (a = 1 ∧ ¬ b = 1) ∨ (a = 2 ∧ b = 2) ∨ (a = 2 ∧ b = 1) ∨ (a = 2 ∧ ¬ b = 2 ∧ ¬ b = 1) ∨ ((a = 3 ∨ a = 4) ∧ a = b) ∨ ((a = 3 ∨ a = 4) ∧ ¬ a = b) ∨ (a = 5 ∧ b = 5) ∨ (a = 5 ∧ ¬ b = 5) ∨ (5 < a ∧ a = b) ∨ (5 < a ∧ ¬ a = b) := by omega
  · obtain ⟨hr, rfl⟩ := hc
    have u1 : (a == a) = true := by simp
    have v1 : (a == 1) = false := beq_eq_false_iff_ne.2 (by omega)
    have v2 : (a == 2) = false := beq_eq_false_iff_ne.2 (by omega)
    have v5 : (a == 5) = false := beq_eq_false_iff_ne.2 (by omega)
    have x5 : (a != 5) = true := by simp; omega
    have v3 : decide (1 ≤ a) = false := by simp; omega
    have v4 : decide (a ≤ 5) = true := by simp; omega
    have HF : Hid (opT s a a = 0) := by show opT s a a = 0; unfold opT; rw [h0, h1, h2]; rw [if_neg (by simp), if_pos (by simp), if_neg (by omega)]
    have HR : Hid (a < 1) := hr
    clear hr
    go_enter Tryd.func10, Tryd.ntmps10
    go_wp2_with fail
    refine (impl_cnt a false (by have := HR.out; simp; omega) _).mono ?_
    rintro e w1 ⟨rfl, rfl⟩
    go_wp2_with fail
    go_ret
    exact ⟨ret_int HF.out.symm, rfl⟩
  · obtain ⟨hr, hne⟩ := hc
    have u1 : (a == b) = false := beq_eq_false_iff_ne.2 hne
    have v1 : (a == 1) = false := beq_eq_false_iff_ne.2 (by omega)
    have v2 : (a == 2) = false := beq_eq_false_iff_ne.2 (by omega)
    have v5 : (a == 5) = false := beq_eq_false_iff_ne.2 (by omega)
    have x5 : (a != 5) = true := by simp; omega
    have v3 : decide (1 ≤ a) = false := by simp; omega
    have v4 : decide (a ≤ 5) = true := by simp; omega
    have HF : Hid (opT s a b = 0) := by show opT s a b = 0; unfold opT; rw [h0, h1, h2]; rw [if_neg (by simp), if_pos (by simp), if_neg (by omega)]
    have HR : Hid (a < 1) := hr
    clear hr
    go_enter Tryd.func10, Tryd.ntmps10
    go_wp2_with fail
    refine (impl_cnt a false (by have := HR.out; simp; omega) _).mono ?_
    rintro e w1 ⟨rfl, rfl⟩
    go_wp2_with fail
    go_ret
    exact ⟨ret_int HF.out.symm, rfl⟩
  · obtain ⟨rfl, rfl⟩ := hc
    have HF : Hid (opT s 1 1 = 1) := by show opT s 1 1 = 1; unfold opT; rw [h0, h1, h2]; rw [if_neg (by simp), if_pos (by simp), if_pos (by omega)]
    go_enter Tryd.func10, Tryd.ntmps10
    go_wp2_with fail
    refine (impl_cnt 1 true (by decide) _).mono ?_
    rintro e w1 ⟨rfl, rfl⟩
    go_wp2_with fail
    go_ret
    exact ⟨ret_int HF.out.symm, rfl⟩
  · obtain ⟨rfl, hne⟩ := hc
    have u1 : ((1 : Int) == b) = false := beq_eq_false_iff_ne.2 (by omega)
    have u2 : (b == 1) = false := beq_eq_false_iff_ne.2 hne
    have HF : Hid (opT s 1 b = 0) := by show opT s 1 b = 0; unfold opT; rw [h0, h1, h2]; rw [if_neg (by simp), if_pos (by simp), if_neg (by omega)]
    go_enter Tryd.func10, Tryd.ntmps10
    go_wp2_with fail
    refine (impl_cnt 1 true (by decide) _).mono ?_
    rintro e w1 ⟨rfl, rfl⟩
    go_wp2_with fail
    go_ret
    exact ⟨ret_int HF.out.symm, rfl⟩
  · obtain ⟨rfl, rfl⟩ := hc
    have HF : Hid (opT s 2 2 = 0) := by show opT s 2 2 = 0; unfold opT; rw [h0, h1, h2]; rw [if_neg (by simp), if_pos (by simp), if_neg (by omega)]
    go_enter Tryd.func10, Tryd.ntmps10
    go_wp2_with fail
    refine (impl_cnt 2 true (by decide) _).mono ?_
    rintro e w1 ⟨rfl, rfl⟩
    go_wp2_with fail
    go_ret
    exact ⟨ret_int HF.out.symm, rfl⟩
  · obtain ⟨rfl, rfl⟩ := hc
    have HF : Hid (opT s 2 1 = 2) := by show opT s 2 1 = 2; unfold opT; rw [h0, h1, h2]; rw [if_neg (by simp), if_pos (by simp), if_pos (by omega)]
    go_enter Tryd.func10, Tryd.ntmps10
    go_wp2_with fail
    refine (impl_cnt 2 true (by decide) _).mono ?_
    rintro e w1 ⟨rfl, rfl⟩
    go_wp2_with fail
    go_ret
    exact ⟨ret_int HF.out.symm, rfl⟩
  · obtain ⟨rfl, hne, hne'⟩ := hc
    have u1 : ((2 : Int) == b) = false := beq_eq_false_iff_ne.2 (by omega)
    have u2 : (b == 1) = false := beq_eq_false_iff_ne.2 hne'
    have HF : Hid (opT s 2 b = 0) := by show opT s 2 b = 0; unfold opT; rw [h0, h1, h2]; rw [if_neg (by simp), if_pos (by simp), if_neg (by omega)]
    go_enter Tryd.func10, Tryd.ntmps10
    go_wp2_with fail
    refine (impl_cnt 2 true (by decide) _).mono ?_
    rintro e w1 ⟨rfl, rfl⟩
    go_wp2_with fail
    go_ret
    exact ⟨ret_int HF.out.symm, rfl⟩
  · obtain ⟨hr, rfl⟩ := hc
    have u1 : (a == a) = true := by simp
    have v1 : (a == 1) = false := beq_eq_false_iff_ne.2 (by omega)
    have v2 : (a == 2) = false := beq_eq_false_iff_ne.2 (by omega)
    have v5 : (a == 5) = false := beq_eq_false_iff_ne.2 (by omega)
    have x5 : (a != 5) = true := by simp; omega
    have v3 : decide (1 ≤ a) = true := by simp; omega
    have v4 : decide (a ≤ 5) = true := by simp; omega
    have HF : Hid (opT s a a = 0) := by show opT s a a = 0; unfold opT; rw [h0, h1, h2]; rw [if_neg (by simp), if_pos (by simp), if_neg (by omega)]
    have HR : Hid (a = 3 ∨ a = 4) := hr
    clear hr
    go_enter Tryd.func10, Tryd.ntmps10
    go_wp2_with fail
    refine (impl_cnt a false (by have := HR.out; simp; omega) _).mono ?_
    rintro e w1 ⟨rfl, rfl⟩
    go_wp2_with fail
    go_ret
    exact ⟨ret_int HF.out.symm, rfl⟩
  · obtain ⟨hr, hne⟩ := hc
    have u1 : (a == b) = false := beq_eq_false_iff_ne.2 hne
    have v1 : (a == 1) = false := beq_eq_false_iff_ne.2 (by omega)
    have v2 : (a == 2) = false := beq_eq_false_iff_ne.2 (by omega)
    have v5 : (a == 5) = false := beq_eq_false_iff_ne.2 (by omega)
    have x5 : (a != 5) = true := by simp; omega
    have v3 : decide (1 ≤ a) = true := by simp; omega
    have v4 : decide (a ≤ 5) = true := by simp; omega
    have HF : Hid (opT s a b = 0) := by show opT s a b = 0; unfold opT; rw [h0, h1, h2]; rw [if_neg (by simp), if_pos (by simp), if_neg (by omega)]
    have HR : Hid (a = 3 ∨ a = 4) := hr
    clear hr
    go_enter Tryd.func10, Tryd.ntmps10
    go_wp2_with fail
    refine (impl_cnt a false (by have := HR.out; simp; omega) _).mono ?_
    rintro e w1 ⟨rfl, rfl⟩
    go_wp2_with fail
    go_ret
    exact ⟨ret_int HF.out.symm, rfl⟩
  · obtain ⟨rfl, rfl⟩ := hc
    have HF : Hid (opT s 5 5 = 0) := by show opT s 5 5 = 0; unfold opT; rw [h0, h1, h2]; rw [if_neg (by simp), if_pos (by simp), if_neg (by omega)]
    go_enter Tryd.func10, Tryd.ntmps10
    go_wp2_with fail
    refine (impl_cnt 5 false (by decide) _).mono ?_
    rintro e w1 ⟨rfl, rfl⟩
    go_wp2_with fail
    go_ret
    exact ⟨ret_int HF.out.symm, rfl⟩
  · obtain ⟨rfl, hne⟩ := hc
    have u1 : ((5 : Int) == b) = false := beq_eq_false_iff_ne.2 (by omega)
    have u2 : (b == 5) = false := beq_eq_false_iff_ne.2 hne
    have HF : Hid (opT s 5 b = 0) := by show opT s 5 b = 0; unfold opT; rw [h0, h1, h2]; rw [if_neg (by simp), if_pos (by simp), if_neg (by omega)]
    go_enter Tryd.func10, Tryd.ntmps10
    go_wp2_with fail
    refine (impl_cnt 5 false (by decide) _).mono ?_
    rintro e w1 ⟨rfl, rfl⟩
    go_wp2_with fail
    go_ret
    exact ⟨ret_int HF.out.symm, rfl⟩
  · obtain ⟨hr, rfl⟩ := hc
    have u1 : (a == a) = true := by simp
    have v1 : (a == 1) = false := beq_eq_false_iff_ne.2 (by omega)
    have v2 : (a == 2) = false := beq_eq_false_iff_ne.2 (by omega)
    have v5 : (a == 5) = false := beq_eq_false_iff_ne.2 (by omega)
    have x5 : (a != 5) = true := by simp; omega
    have v3 : decide (1 ≤ a) = true := by simp; omega
    have v4 : decide (a ≤ 5) = false := by simp; omega
    have HF : Hid (opT s a a = 0) := by show opT s a a = 0; unfold opT; rw [h0, h1, h2]; rw [if_neg (by simp), if_pos (by simp), if_neg (by omega)]
    have HR : Hid (5 < a) := hr
    clear hr
    go_enter Tryd.func10, Tryd.ntmps10
    go_wp2_with fail
    refine (impl_cnt a false (by have := HR.out; simp; omega) _).mono ?_
    rintro e w1 ⟨rfl, rfl⟩
    go_wp2_with fail
    go_ret
    exact ⟨ret_int HF.out.symm, rfl⟩
  · obtain ⟨hr, hne⟩ := hc
    have u1 : (a == b) = false := beq_eq_false_iff_ne.2 hne
    have v1 : (a == 1) = false := beq_eq_false_iff_ne.2 (by omega)
    have v2 : (a == 2) = false := beq_eq_false_iff_ne.2 (by omega)
    have v5 : (a == 5) = false := beq_eq_false_iff_ne.2 (by omega)
    have x5 : (a != 5) = true := by simp; omega
    have v3 : decide (1 ≤ a) = true := by simp; omega
    have v4 : decide (a ≤ 5) = false := by simp; omega
    have HF : Hid (opT s a b = 0) := by show opT s a b = 0; unfold opT; rw [h0, h1, h2]; rw [if_neg (by simp), if_pos (by simp), if_neg (by omega)]
    have HR : Hid (5 < a) := hr
    clear hr
    go_enter Tryd.func10, Tryd.ntmps10
    go_wp2_with fail
    refine (impl_cnt a false (by have := HR.out; simp; omega) _).mono ?_
    rintro e w1 ⟨rfl, rfl⟩
    go_wp2_with fail
    go_ret
    exact ⟨ret_int HF.out.symm, rfl⟩
set_option maxRecDepth 100000 in
set_option maxHeartbeats 8000000 in
theorem impl_op_less (s : ByteArray) (a b : Int) (h0 : (s.toList == [43]) = false) (h1 : (s.toList == [45]) = false) (h2 : (s.toList == [42]) = false) (h3 : (s.toList == [60]) = true) (w : World) :
    Calls Tryd.prog 10 #[.string s, .int .i64 a, .int .i64 b] w fun e w' => e = .returned (.int .i64 (opT s a b)) ∧ w' = w := by
  obtain hc | hc | hc | hc | hc | hc | hc | hc | hc | hc | hc | hc | hc : (a < 1 ∧ a = b) ∨ (a < 1 ∧ ¬ a = b) ∨ (a = 1 ∧ b = 1) ∨ (a = 1 ∧ ¬ b = 1) ∨ (a = 2 ∧ b = 2) ∨ (a = 2 ∧ b = 1) ∨ (a = 2 ∧ ¬ b = 2 ∧ ¬ b = 1) ∨ ((a = 3 ∨ a = 4) ∧ a = b) ∨ ((a = 3 ∨ a = 4) ∧ ¬ a = b) ∨ (a = 5 ∧ b = 5) ∨ (a = 5 ∧ ¬ b = 5) ∨ (5 < a ∧ a = b) ∨ (5 < a ∧ ¬ a = b) := by omega
  · obtain ⟨hr, rfl⟩ := hc
    have u1 : (a == a) = true := by simp
    have v1 : (a == 1) = false := beq_eq_false_iff_ne.2 (by omega)
    have v2 : (a == 2) = false := beq_eq_false_iff_ne.2 (by omega)
    have v5 : (a == 5) = false := beq_eq_false_iff_ne.2 (by omega)
    have x5 : (a != 5) = true := by simp; omega
    have v3 : decide (1 ≤ a) = false := by simp; omega
    have v4 : decide (a ≤ 5) = true := by simp; omega
    have HF : Hid (opT s a a = 0) := by show opT s a a = 0; unfold opT; rw [h0, h1, h2, h3]; rw [if_neg (by simp), if_neg (by simp), if_pos (by simp), if_neg (by omega)]
    have HR : Hid (a < 1) := hr
    clear hr
    go_enter Tryd.func10, Tryd.ntmps10
    go_wp2_with fail
    refine (impl_isT a false (by have := HR.out; simp; omega) _).mono ?_
    rintro e w1 ⟨rfl, rfl⟩
    go_wp2_with fail
    go_ret
    exact ⟨ret_int HF.out.symm, rfl⟩
  · obtain ⟨hr, hne⟩ := hc
    have u1 : (a == b) = false := beq_eq_false_iff_ne.2 hne
    have v1 : (a == 1) = false := beq_eq_false_iff_ne.2 (by omega)
    have v2 : (a == 2) = false := beq_eq_false_iff_ne.2 (by omega)
    have v5 : (a == 5) = false := beq_eq_false_iff_ne.2 (by omega)
    have x5 : (a != 5) = true := by simp; omega
    have v3 : decide (1 ≤ a) = false := by simp; omega
    have v4 : decide (a ≤ 5) = true := by simp; omega
    have HF : Hid (opT s a b = 0) := by show opT s a b = 0; unfold opT; rw [h0, h1, h2, h3]; rw [if_neg (by simp), if_neg (by simp), if_pos (by simp), if_neg (by omega)]
    have HR : Hid (a < 1) := hr
    clear hr
    go_enter Tryd.func10, Tryd.ntmps10
    go_wp2_with fail
    go_ret
    exact ⟨ret_int HF.out.symm, rfl⟩
  · obtain ⟨rfl, rfl⟩ := hc
    have HF : Hid (opT s 1 1 = 5) := by show opT s 1 1 = 5; unfold opT; rw [h0, h1, h2, h3]; rw [if_neg (by simp), if_neg (by simp), if_pos (by simp), if_pos (by omega)]
    go_enter Tryd.func10, Tryd.ntmps10
    go_wp2_with fail
    refine (impl_isT 1 true (by decide) _).mono ?_
    rintro e w1 ⟨rfl, rfl⟩
    go_wp2_with fail
    go_ret
    exact ⟨ret_int HF.out.symm, rfl⟩
  · obtain ⟨rfl, hne⟩ := hc
    have u1 : ((1 : Int) == b) = false := beq_eq_false_iff_ne.2 (by omega)
    have u2 : (b == 1) = false := beq_eq_false_iff_ne.2 hne
    have HF : Hid (opT s 1 b = 0) := by show opT s 1 b = 0; unfold opT; rw [h0, h1, h2, h3]; rw [if_neg (by simp), if_neg (by simp), if_pos (by simp), if_neg (by omega)]
    go_enter Tryd.func10, Tryd.ntmps10
    go_wp2_with fail
    go_ret
    exact ⟨ret_int HF.out.symm, rfl⟩
  · obtain ⟨rfl, rfl⟩ := hc
    have HF : Hid (opT s 2 2 = 5) := by show opT s 2 2 = 5; unfold opT; rw [h0, h1, h2, h3]; rw [if_neg (by simp), if_neg (by simp), if_pos (by simp), if_pos (by omega)]
    go_enter Tryd.func10, Tryd.ntmps10
    go_wp2_with fail
    refine (impl_isT 2 true (by decide) _).mono ?_
    rintro e w1 ⟨rfl, rfl⟩
    go_wp2_with fail
    go_ret
    exact ⟨ret_int HF.out.symm, rfl⟩
  · obtain ⟨rfl, rfl⟩ := hc
    have HF : Hid (opT s 2 1 = 0) := by show opT s 2 1 = 0; unfold opT; rw [h0, h1, h2, h3]; rw [if_neg (by simp), if_neg (by simp), if_pos (by simp), if_neg (by omega)]
    go_enter Tryd.func10, Tryd.ntmps10
    go_wp2_with fail
    go_ret
    exact ⟨ret_int HF.out.symm, rfl⟩
  · obtain ⟨rfl, hne, hne'⟩ := hc
    have u1 : ((2 : Int) == b) = false := beq_eq_false_iff_ne.2 (by omega)
    have u2 : (b == 1) = false := beq_eq_false_iff_ne.2 hne'
    have HF : Hid (opT s 2 b = 0) := by show opT s 2 b = 0; unfold opT; rw [h0, h1, h2, h3]; rw [if_neg (by simp), if_neg (by simp), if_pos (by simp), if_neg (by omega)]
    go_enter Tryd.func10, Tryd.ntmps10
    go_wp2_with fail
    go_ret
    exact ⟨ret_int HF.out.symm, rfl⟩
  · obtain ⟨hr, rfl⟩ := hc
    have u1 : (a == a) = true := by simp
    have v1 : (a == 1) = false := beq_eq_false_iff_ne.2 (by omega)
    have v2 : (a == 2) = false := beq_eq_false_iff_ne.2 (by omega)
    have v5 : (a == 5) = false := beq_eq_false_iff_ne.2 (by omega)
    have x5 : (a != 5) = true := by simp; omega
    have v3 : decide (1 ≤ a) = true := by simp; omega
    have v4 : decide (a ≤ 5) = true := by simp; omega
    have HF : Hid (opT s a a = 5) := by show opT s a a = 5; unfold opT; rw [h0, h1, h2, h3]; rw [if_neg (by simp), if_neg (by simp), if_pos (by simp), if_pos (by omega)]
    have HR : Hid (a = 3 ∨ a = 4) := hr
    clear hr
    go_enter Tryd.func10, Tryd.ntmps10
    go_wp2_with fail
    refine (impl_isT a true (by have := HR.out; simp; omega) _).mono ?_
    rintro e w1 ⟨rfl, rfl⟩
    go_wp2_with fail
    go_ret
    exact ⟨ret_int HF.out.symm, rfl⟩
  · obtain ⟨hr, hne⟩ := hc
    have u1 : (a == b) = false := beq_eq_false_iff_ne.2 hne
    have v1 : (a == 1) = false := beq_eq_false_iff_ne.2 (by omega)
    have v2 : (a == 2) = false := beq_eq_false_iff_ne.2 (by omega)
    have v5 : (a == 5) = false := beq_eq_false_iff_ne.2 (by omega)
    have x5 : (a != 5) = true := by simp; omega
    have v3 : decide (1 ≤ a) = true := by simp; omega
    have v4 : decide (a ≤ 5) = true := by simp; omega
    have HF : Hid (opT s a b = 0) := by show opT s a b = 0; unfold opT; rw [h0, h1, h2, h3]; rw [if_neg (by simp), if_neg (by simp), if_pos (by simp), if_neg (by omega)]
    have HR : Hid (a = 3 ∨ a = 4) := hr
    clear hr
    go_enter Tryd.func10, Tryd.ntmps10
    go_wp2_with fail
    go_ret
    exact ⟨ret_int HF.out.symm, rfl⟩
  · obtain ⟨rfl, rfl⟩ := hc
    have HF : Hid (opT s 5 5 = 0) := by show opT s 5 5 = 0; unfold opT; rw [h0, h1, h2, h3]; rw [if_neg (by simp), if_neg (by simp), if_pos (by simp), if_neg (by omega)]
    go_enter Tryd.func10, Tryd.ntmps10
    go_wp2_with fail
    refine (impl_isT 5 true (by decide) _).mono ?_
    rintro e w1 ⟨rfl, rfl⟩
    go_wp2_with fail
    go_ret
    exact ⟨ret_int HF.out.symm, rfl⟩
  · obtain ⟨rfl, hne⟩ := hc
    have u1 : ((5 : Int) == b) = false := beq_eq_false_iff_ne.2 (by omega)
    have u2 : (b == 5) = false := beq_eq_false_iff_ne.2 hne
    have HF : Hid (opT s 5 b = 0) := by show opT s 5 b = 0; unfold opT; rw [h0, h1, h2, h3]; rw [if_neg (by simp), if_neg (by simp), if_pos (by simp), if_neg (by omega)]
    go_enter Tryd.func10, Tryd.ntmps10
    go_wp2_with fail
    go_ret
    exact ⟨ret_int HF.out.symm, rfl⟩
  · obtain ⟨hr, rfl⟩ := hc
    have u1 : (a == a) = true := by simp
    have v1 : (a == 1) = false := beq_eq_false_iff_ne.2 (by omega)
    have v2 : (a == 2) = false := beq_eq_false_iff_ne.2 (by omega)
    have v5 : (a == 5) = false := beq_eq_false_iff_ne.2 (by omega)
    have x5 : (a != 5) = true := by simp; omega
    have v3 : decide (1 ≤ a) = true := by simp; omega
    have v4 : decide (a ≤ 5) = false := by simp; omega
    have HF : Hid (opT s a a = 0) := by show opT s a a = 0; unfold opT; rw [h0, h1, h2, h3]; rw [if_neg (by simp), if_neg (by simp), if_pos (by simp), if_neg (by omega)]
    have HR : Hid (5 < a) := hr
    clear hr
    go_enter Tryd.func10, Tryd.ntmps10
    go_wp2_with fail
    refine (impl_isT a false (by have := HR.out; simp; omega) _).mono ?_
    rintro e w1 ⟨rfl, rfl⟩
    go_wp2_with fail
    go_ret
    exact ⟨ret_int HF.out.symm, rfl⟩
  · obtain ⟨hr, hne⟩ := hc
    have u1 : (a == b) = false := beq_eq_false_iff_ne.2 hne
    have v1 : (a == 1) = false := beq_eq_false_iff_ne.2 (by omega)
    have v2 : (a == 2) = false := beq_eq_false_iff_ne.2 (by omega)
    have v5 : (a == 5) = false := beq_eq_false_iff_ne.2 (by omega)
    have x5 : (a != 5) = true := by simp; omega
    have v3 : decide (1 ≤ a) = true := by simp; omega
    have v4 : decide (a ≤ 5) = false := by simp; omega
    have HF : Hid (opT s a b = 0) := by show opT s a b = 0; unfold opT; rw [h0, h1, h2, h3]; rw [if_neg (by simp), if_neg (by simp), if_pos (by simp), if_neg (by omega)]
    have HR : Hid (5 < a) := hr
    clear hr
    go_enter Tryd.func10, Tryd.ntmps10
    go_wp2_with fail
    go_ret
    exact ⟨ret_int HF.out.symm, rfl⟩
end Go.Proofs.YtnkklkbokpeanaaDoor
