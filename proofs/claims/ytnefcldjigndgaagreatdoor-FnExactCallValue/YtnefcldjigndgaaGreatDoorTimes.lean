/- Products of money (spec.MoneyTimes, impl.MoneyTimes): what each call does, and the law that holds one against the other. -/
import Derived.Test.YtnefcldjigndgaaGreatDoorAdd
import Derived.Test.YtnefcldjigndgaaGreatDoorLayMul
import Derived.Shelf.Bits.Mul64
namespace Go.Proofs.YtnefcldjigndgaaGreatDoor
open Go.RowKit

def timesB (a b : Int) : Int × Int := if rightB a then outB (a * b) else (0, 1)
theorem timesB_zero (a b : Int) : (timesB a b).2 ≠ 0 → (timesB a b).1 = 0 := by
  unfold timesB
  split
  · exact outB_zero _
  · simp
theorem outB_ok {n : Int} (h0 : -1000000000000 ≤ n) (h1 : n ≤ 1000000000000) : outB n = (n, 0) := by unfold outB; rw [rightB_yes h0 h1]; rfl
theorem outB_no {n : Int} (h : n < -1000000000000 ∨ 1000000000000 < n) : outB n = (0, 13) := by unfold outB; rw [rightB_no h]; rfl
/-- A product by its factors' magnitudes and signs. -/
theorem mul_pp {a b : Int} (ha : 0 ≤ a) (hb : 0 ≤ b) : a * b = ((a.natAbs * b.natAbs : Nat) : Int) := by
  rw [Int.natCast_mul, Int.natAbs_of_nonneg ha, Int.natAbs_of_nonneg hb]
theorem mul_np {a b : Int} (ha : a < 0) (hb : 0 ≤ b) : a * b = -((a.natAbs * b.natAbs : Nat) : Int) := by
  rw [Int.natCast_mul, Int.natAbs_of_nonneg hb, Int.ofNat_natAbs_of_nonpos (by omega), Int.neg_mul, Int.neg_neg]
theorem mul_pn {a b : Int} (ha : 0 ≤ a) (hb : b < 0) : a * b = -((a.natAbs * b.natAbs : Nat) : Int) := by
  rw [Int.mul_comm, mul_np hb ha, Nat.mul_comm]
theorem mul_nn {a b : Int} (ha : a < 0) (hb : b < 0) : a * b = ((a.natAbs * b.natAbs : Nat) : Int) := by
  rw [Int.natCast_mul, Int.ofNat_natAbs_of_nonpos (by omega), Int.ofNat_natAbs_of_nonpos (by omega), Int.neg_mul_neg]

set_option maxHeartbeats 400000 in
theorem impl_mag (n : Int) (w : World) (h0 : -9223372036854775808 ≤ n) (h1 : n ≤ 9223372036854775807) :
    Calls Tryz.prog 66 #[.int .i64 n] w fun e w' => e = .returned (.int .u64 (n.natAbs : Int)) ∧ w' = w := by
  by_cases h : n < 0
  · go_enter Tryz.func66, Tryz.ntmps66
    go_wp2
    go_ret
    refine ⟨?_, rfl⟩
    refine congrArg (fun x => Ending.returned (Value.int .u64 x)) ?_
    simp only [IntKind.wrap_u64]
    omega
  · go_enter Tryz.func66, Tryz.ntmps66
    go_wp2
    go_ret
    refine ⟨?_, rfl⟩
    refine congrArg (fun x => Ending.returned (Value.int .u64 x)) ?_
    omega

set_option maxHeartbeats 400000 in
theorem impl_sign_yes (u : Nat) (w : World) (h : u ≤ 9223372036854775807) :
    Calls Tryz.prog 69 #[.int .u64 u, .bool true] w fun e w' => e = .returned (.int .i64 (-(u : Int))) ∧ w' = w := by
  go_enter Tryz.func69, Tryz.ntmps69
  go_wp2
  go_ret
  exact ⟨rfl, rfl⟩
set_option maxHeartbeats 400000 in
theorem impl_sign_no (u : Nat) (w : World) (h : u ≤ 9223372036854775807) :
    Calls Tryz.prog 69 #[.int .u64 u, .bool false] w fun e w' => e = .returned (.int .i64 (u : Int)) ∧ w' = w := by
  go_enter Tryz.func69, Tryz.ntmps69
  go_wp2
  go_ret
  exact ⟨rfl, rfl⟩

theorem mul64 (x y : Nat) (hx : x < 18446744073709551616) (hy : y < 18446744073709551616) (w : World) :
    Calls Tryz.prog 65 #[.int .u64 x, .int .u64 y] w fun e w' => e = .returned (.tuple #[.int .u64 ((x * y / 18446744073709551616 : Nat) : Int), .int .u64 ((x * y % 18446744073709551616 : Nat) : Int)]) ∧ w' = w :=
  Any.bits_Mul64 lays264 x y hx hy w


end Go.Proofs.YtnefcldjigndgaaGreatDoor
