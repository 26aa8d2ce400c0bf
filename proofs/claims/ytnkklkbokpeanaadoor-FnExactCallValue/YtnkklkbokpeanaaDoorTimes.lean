/- Products of money (spec.MoneyTimes, impl.MoneyTimes): what each call does, and the law that holds one against the other. -/
import Derived.Test.YtnkklkbokpeanaaDoorAdd
import Derived.Test.YtnkklkbokpeanaaDoorLayMul
import Derived.Shelf.Bits.Mul64
namespace Go.Proofs.YtnkklkbokpeanaaDoor
open Go.RowKit

def timesB (a b : Int) : Int × Int := if rightB a then outB (a * b) else (0, 1)
theorem timesB_zero (a b : Int) : (timesB a b).2 ≠ 0 → (timesB a b).1 = 0 := by
  unfold timesB
  split
  · exact outB_zero _
  · simp
theorem outB_ok {n : Int} (h0 : -1000000000000 ≤ n) (h1 : n ≤ 1000000000000) : outB n = (n, 0) := by unfold outB; rw [rightB_yes h0 h1]; rfl
theorem outB_no {n : Int} (h : n < -1000000000000 ∨ 1000000000000 < n) : outB n = (0, 13) := by unfold outB; rw [rightB_no h]; rfl
/-- A product by its factors' magnitudes and signs. -/
theorem mul_pp {a b : Int} (ha : 0 ≤ a) (hb : 0 ≤ b) : a * b = ((a.natAbs * b.natAbs : Nat) : Int) := by
  rw [Int.natCast_mul, Int.natAbs_of_nonneg ha, Int.natAbs_of_nonneg hb]
theorem mul_np {a b : Int} (ha : a < 0) (hb : 0 ≤ b) : a * b = -((a.natAbs * b.natAbs : Nat) : Int) := by
  rw [Int.natCast_mul, Int.natAbs_of_nonneg hb, Int.ofNat_natAbs_of_nonpos (by omega), Int.neg_mul, Int.neg_neg]
theorem mul_pn {a b : Int} (ha : 0 ≤ a) (hb : b < 0) : a * b = -((a.natAbs * b.natAbs : Nat) : Int) := by
  rw [Int.mul_comm, mul_np hb ha, Nat.mul_comm]
theorem mul_nn {a b : Int} (ha : a < 0) (hb : b < 0) : a * b = ((a.natAbs * b.natAbs : Nat) : Int) := by
  rw [Int.natCast_mul, Int.ofNat_natAbs_of_nonpos (by omega), Int.ofNat_natAbs_of_nonpos (by omega), Int.neg_mul_neg]

set_option maxHeartbeats 400000 in
theorem impl_mag (n : Int) (w : World) (h0 : -9223372036854775808 ≤ n) (h1 : n ≤ 9223372036854775807) :
    Calls Tryd.prog 105 #[.int .i64 n] w fun e w' => e = .returned (.int .u64 (n.natAbs : Int)) ∧ w' = w := by
  by_cases h : n < 0
  · go_enter Tryd.func105, Tryd.ntmps105
    go_wp2
    go_ret
    refine ⟨?_, rfl⟩
    refine congrArg (fun x => Ending.returned (Value.int .u64 x)) ?_
    simp only [IntKind.wrap_u64]
    omega
  · go_enter Tryd.func105, Tryd.ntmps105
    go_wp2
    go_ret
    refine ⟨?_, rfl⟩
    refine congrArg (fun x => Ending.returned (Value.int .u64 x)) ?_
    omega

set_option maxHeartbeats 400000 in
theorem impl_sign_yes (u : Nat) (w : World) (h : u ≤ 9223372036854775807) :
    Calls Tryd.prog 106 #[.int .u64 u, .bool true] w fun e w' => e = .returned (.int .i64 (-(u : Int))) ∧ w' = w := by
  go_enter Tryd.func106, Tryd.ntmps106
  go_wp2
  go_ret
  exact ⟨rfl, rfl⟩
set_option maxHeartbeats 400000 in
theorem impl_sign_no (u : Nat) (w : World) (h : u ≤ 9223372036854775807) :
    Calls Tryd.prog 106 #[.int .u64 u, .bool false] w fun e w' => e = .returned (.int .i64 (u : Int)) ∧ w' = w := by
  go_enter Tryd.func106, Tryd.ntmps106
  go_wp2
  go_ret
  exact ⟨rfl, rfl⟩

theorem mul64 (x y : Nat) (hx : x < 18446744073709551616) (hy : y < 18446744073709551616) (w : World) :
    Calls Tryd.prog 104 #[.int .u64 x, .int .u64 y] w fun e w' => e = .returned (.tuple #[.int .u64 ((x * y / 18446744073709551616 : Nat) : Int), .int .u64 ((x * y % 18446744073709551616 : Nat) : Int)]) ∧ w' = w :=
  Any.bits_Mul64 lays264 x y hx hy w

set_option maxHeartbeats 1000000 in
theorem impl_timesM (a b : Int) (w : World) (h0 : -9223372036854775808 ≤ b) (h1 : b ≤ 9223372036854775807) :
    Calls Tryd.prog 66 #[.int .i64 a, .int .i64 b] w fun e w' => e = .returned (tupV (timesB a b)) ∧ w' = w := by
  cases ha : rightB a
  · have HR : Hid (timesB a b = (0, 1)) := by simp [Hid, timesB, ha]
    have H : Hid (rightB a = false) := ha
    clear ha
    go_enter Tryd.func66, Tryd.ntmps66
    go_wp2_with fail
    refine (impl_right _ _).mono ?_
    rintro e w1 ⟨rfl, rfl⟩
    rw [H.out]
    go_wp2_with fail
    go_ret2
    refine ⟨?_, rfl⟩
    rw [HR.out, tupV_err _ _ (by decide)]; rfl
  have H : Hid (rightB a = true) := ha
  obtain ⟨a0, a1⟩ := (rightB_iff a).1 ha
  have hT : timesB a b = outB (a * b) := by simp [timesB, ha]
  have hm := fun w => mul64 a.natAbs b.natAbs (by omega) (by omega) w
  have pp := @mul_pp a b
  have np := @mul_np a b
  have pn := @mul_pn a b
  have nn := @mul_nn a b
  generalize a.natAbs * b.natAbs = p at hm pp np pn nn
  clear ha
  by_cases hp : p ≤ 1000000000000
  · have e1 : p / 18446744073709551616 = 0 := by omega
    have e2 : p % 18446744073709551616 = p := by omega
    rw [e1, e2] at hm
    have HM : Hid (∀ w, Calls Tryd.prog 104 #[.int .u64 (a.natAbs : Int), .int .u64 (b.natAbs : Int)] w fun e w' => e = .returned (.tuple #[.int .u64 ((0 : Nat) : Int), .int .u64 (p : Int)]) ∧ w' = w) := hm
    clear hm e1 e2
    by_cases hsa : a < 0
    · by_cases hsb : b < 0
      · have HR : Hid (timesB a b = ((p : Int), 0)) := by rw [Hid, hT, nn (by omega) (by omega)]; exact outB_ok (by omega) (by omega)
        have ta : decide (a < 0) = true := by simp; omega
        have tb : decide (b < 0) = true := by simp; omega
        clear hT pp np pn nn
        go_enter Tryd.func66, Tryd.ntmps66
        go_wp2_with fail
        refine (impl_right _ _).mono ?_
        rintro e w1 ⟨rfl, rfl⟩
        rw [H.out]
        go_wp2_with fail
        refine (impl_mag _ _ (by omega) (by omega)).mono ?_
        rintro e w1 ⟨rfl, rfl⟩
        go_wp2_with fail
        refine (impl_mag _ _ h0 h1).mono ?_
        rintro e w1 ⟨rfl, rfl⟩
        go_wp2_with fail
        refine (HM.out _).mono ?_
        rintro e w1 ⟨rfl, rfl⟩
        go_wp2_with fail
        refine (impl_sign_no _ _ (by omega)).mono ?_
        rintro e w1 ⟨rfl, rfl⟩
        go_wp2_with fail
        go_ret2
        refine ⟨?_, rfl⟩
        rw [HR.out, tupV_ok]; rfl
      · have HR : Hid (timesB a b = (-(p : Int), 0)) := by rw [Hid, hT, np (by omega) (by omega)]; exact outB_ok (by omega) (by omega)
        have ta : decide (a < 0) = true := by simp; omega
        have tb : decide (b < 0) = false := by simp; omega
        clear hT pp np pn nn
        go_enter Tryd.func66, Tryd.ntmps66
        go_wp2_with fail
        refine (impl_right _ _).mono ?_
        rintro e w1 ⟨rfl, rfl⟩
        rw [H.out]
        go_wp2_with fail
        refine (impl_mag _ _ (by omega) (by omega)).mono ?_
        rintro e w1 ⟨rfl, rfl⟩
        go_wp2_with fail
        refine (impl_mag _ _ h0 h1).mono ?_
        rintro e w1 ⟨rfl, rfl⟩
        go_wp2_with fail
        refine (HM.out _).mono ?_
        rintro e w1 ⟨rfl, rfl⟩
        go_wp2_with fail
        refine (impl_sign_yes _ _ (by omega)).mono ?_
        rintro e w1 ⟨rfl, rfl⟩
        go_wp2_with fail
        go_ret2
        refine ⟨?_, rfl⟩
        rw [HR.out, tupV_ok]; rfl
    · by_cases hsb : b < 0
      · have HR : Hid (timesB a b = (-(p : Int), 0)) := by rw [Hid, hT, pn (by omega) (by omega)]; exact outB_ok (by omega) (by omega)
        have ta : decide (a < 0) = false := by simp; omega
        have tb : decide (b < 0) = true := by simp; omega
        clear hT pp np pn nn
        go_enter Tryd.func66, Tryd.ntmps66
        go_wp2_with fail
        refine (impl_right _ _).mono ?_
        rintro e w1 ⟨rfl, rfl⟩
        rw [H.out]
        go_wp2_with fail
        refine (impl_mag _ _ (by omega) (by omega)).mono ?_
        rintro e w1 ⟨rfl, rfl⟩
        go_wp2_with fail
        refine (impl_mag _ _ h0 h1).mono ?_
        rintro e w1 ⟨rfl, rfl⟩
        go_wp2_with fail
        refine (HM.out _).mono ?_
        rintro e w1 ⟨rfl, rfl⟩
        go_wp2_with fail
        refine (impl_sign_yes _ _ (by omega)).mono ?_
        rintro e w1 ⟨rfl, rfl⟩
        go_wp2_with fail
        go_ret2
        refine ⟨?_, rfl⟩
        rw [HR.out, tupV_ok]; rfl
      · have HR : Hid (timesB a b = ((p : Int), 0)) := by rw [Hid, hT, pp (by omega) (by omega)]; exact outB_ok (by omega) (by omega)
        have ta : decide (a < 0) = false := by simp; omega
        have tb : decide (b < 0) = false := by simp; omega
        clear hT pp np pn nn
        go_enter Tryd.func66, Tryd.ntmps66
        go_wp2_with fail
        refine (impl_right _ _).mono ?_
        rintro e w1 ⟨rfl, rfl⟩
        rw [H.out]
        go_wp2_with fail
        refine (impl_mag _ _ (by omega) (by omega)).mono ?_
        rintro e w1 ⟨rfl, rfl⟩
        go_wp2_with fail
        refine (impl_mag _ _ h0 h1).mono ?_
        rintro e w1 ⟨rfl, rfl⟩
        go_wp2_with fail
        refine (HM.out _).mono ?_
        rintro e w1 ⟨rfl, rfl⟩
        go_wp2_with fail
        refine (impl_sign_no _ _ (by omega)).mono ?_
        rintro e w1 ⟨rfl, rfl⟩
        go_wp2_with fail
        go_ret2
        refine ⟨?_, rfl⟩
        rw [HR.out, tupV_ok]; rfl
  · have HR : Hid (timesB a b = (0, 13)) := by
      rw [Hid, hT]
      refine outB_no ?_
      by_cases hsa : a < 0
      · by_cases hsb : b < 0
        · rw [nn hsa hsb]; omega
        · rw [np hsa (by omega)]; omega
      · by_cases hsb : b < 0
        · rw [pn (by omega) hsb]; omega
        · rw [pp (by omega) (by omega)]; omega
    clear hT pp np pn nn
    by_cases hz : p / 18446744073709551616 = 0
    · have e2 : p % 18446744073709551616 = p := by omega
      have hq : p < 18446744073709551616 := by omega
      rw [hz, e2] at hm
      have HM : Hid (∀ w, Calls Tryd.prog 104 #[.int .u64 (a.natAbs : Int), .int .u64 (b.natAbs : Int)] w fun e w' => e = .returned (.tuple #[.int .u64 ((0 : Nat) : Int), .int .u64 (p : Int)]) ∧ w' = w) := hm
      have t1 : decide (1000000000000 < (p : Int)) = true := by simp; omega
      clear hm hz e2
      go_enter Tryd.func66, Tryd.ntmps66
      go_wp2_with fail
      refine (impl_right _ _).mono ?_
      rintro e w1 ⟨rfl, rfl⟩
      rw [H.out]
      go_wp2_with fail
      refine (impl_mag _ _ (by omega) (by omega)).mono ?_
      rintro e w1 ⟨rfl, rfl⟩
      go_wp2_with fail
      refine (impl_mag _ _ h0 h1).mono ?_
      rintro e w1 ⟨rfl, rfl⟩
      go_wp2_with fail
      refine (HM.out _).mono ?_
      rintro e w1 ⟨rfl, rfl⟩
      go_wp2_with fail
      go_ret2
      refine ⟨?_, rfl⟩
      rw [HR.out, tupV_err _ _ (by decide)]; rfl
    · generalize p / 18446744073709551616 = hi at hm hz
      generalize p % 18446744073709551616 = lo at hm
      have HM : Hid (∀ w, Calls Tryd.prog 104 #[.int .u64 (a.natAbs : Int), .int .u64 (b.natAbs : Int)] w fun e w' => e = .returned (.tuple #[.int .u64 (hi : Int), .int .u64 (lo : Int)]) ∧ w' = w) := hm
      have t1 : ((hi : Int) != 0) = true := by rw [bne_iff_ne]; omega
      clear hm hz
      go_enter Tryd.func66, Tryd.ntmps66
      go_wp2_with fail
      refine (impl_right _ _).mono ?_
      rintro e w1 ⟨rfl, rfl⟩
      rw [H.out]
      go_wp2_with fail
      refine (impl_mag _ _ (by omega) (by omega)).mono ?_
      rintro e w1 ⟨rfl, rfl⟩
      go_wp2_with fail
      refine (impl_mag _ _ h0 h1).mono ?_
      rintro e w1 ⟨rfl, rfl⟩
      go_wp2_with fail
      refine (HM.out _).mono ?_
      rintro e w1 ⟨rfl, rfl⟩
      go_wp2_with fail
      go_ret2
      refine ⟨?_, rfl⟩
      rw [HR.out, tupV_err _ _ (by decide)]; rfl

end Go.Proofs.YtnkklkbokpeanaaDoor
