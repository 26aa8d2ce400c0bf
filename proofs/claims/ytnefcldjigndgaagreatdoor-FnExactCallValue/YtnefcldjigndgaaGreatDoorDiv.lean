/- math/bits.Div64 at a divisor from 1 to 10^9: the quotient and the rest of a number of two words. -/
import Derived.Test.YtnefcldjigndgaaGreatDoorDivMath
import Derived.Test.YtnefcldjigndgaaGreatDoorTimes
import Derived.Test.YtnefcldjigndgaaGreatDoorLayLz
import Derived.Shelf.Small.Bits
import Derived.Deep.QuietTactic
import Derived.BigQuiet
namespace Go.Proofs.YtnefcldjigndgaaGreatDoor
open Go.RowKit

theorem lz64 (y s : Nat) (hy : y < 18446744073709551616) (hs : Lib.bitLen y + s = 64) (w : World) : Calls Tryz.prog 80 #[.int .u64 y] w fun e w' => e = .returned (.int .i64 s) ∧ w' = w := by
  have h := Any.bits_LeadingZeros64 lays134 (y : Int) w (by omega) (by omega)
  rw [Int.toNat_natCast, show (64 : Int) - (Lib.bitLen y : Int) = (s : Int) by omega] at h
  exact h

set_option maxHeartbeats 400000 in
theorem div64_small (lo y : Nat) (w : World) (h1 : 0 < y) (h2 : y ≤ 1000000000) (h3 : lo < 18446744073709551616) :
    Calls Tryz.prog 67 #[.int .u64 0, .int .u64 lo, .int .u64 y] w fun e w' => e = .returned (.tuple #[.int .u64 (lo / y : Nat), .int .u64 (lo % y : Nat)]) ∧ Below w.heap.size w w' := by
  have t1 : ((y : Int) == 0) = false := beq_eq_false_iff_ne.2 (by omega)
  have t2 : decide ((y : Int) ≤ 0) = false := by simp; omega
  have q : ((lo / y : Nat) : Int) = (lo : Int) / (y : Int) := Int.natCast_ediv _ _
  have r : ((lo % y : Nat) : Int) = (lo : Int) % (y : Int) := Int.natCast_emod _ _
  have hq : lo / y ≤ lo := Nat.div_le_self lo y
  have ew : IntKind.u64.wrap ((lo : Int) / (y : Int)) = (lo : Int) / (y : Int) := by rw [← q]; exact wrapUlt _ (by omega)
  rw [q, r]
  clear q r hq
  go_enter Tryz.func67, Tryz.ntmps67
  go_wp2_with fail
  go_quiet (fail)
  go_wp2_with fail
  go_ret2
  exact ⟨rfl, ⟨rfl, rfl, rfl, Nat.le_refl _, fun _ _ => rfl⟩⟩

set_option maxRecDepth 100000 in
set_option maxHeartbeats 2000000 in
theorem div64_big (hi lo y : Nat) (w : World) (h0 : 0 < hi) (h1 : hi < y) (h2 : y ≤ 1000000000) (h3 : lo < 18446744073709551616) :
    Calls Tryz.prog 67 #[.int .u64 hi, .int .u64 lo, .int .u64 y] w fun e w' => e = .returned (.tuple #[.int .u64 ((hi * 18446744073709551616 + lo) / y : Nat), .int .u64 ((hi * 18446744073709551616 + lo) % y : Nat)]) ∧ w' = w := by
  obtain ⟨l1, l2, l3⟩ := bitLen_bounds y (by omega) (by omega)
  have l30 : Lib.bitLen y ≤ 30 := by
    rcases Nat.lt_or_ge 30 (Lib.bitLen y) with h | h
    · have := Nat.pow_le_pow_right (n := 2) (by omega) (show 30 ≤ Lib.bitLen y - 1 by omega)
      omega
    · exact h
  obtain ⟨s, hs⟩ : ∃ s, Lib.bitLen y + s = 64 := ⟨64 - Lib.bitLen y, by omega⟩
  have hs34 : 34 ≤ s := by omega
  have hs63 : s ≤ 63 := by omega
  have HLZ : Hid (∀ w, Calls Tryz.prog 80 #[.int .u64 y] w fun e w' => e = .returned (.int .i64 s) ∧ w' = w) := fun w => lz64 y s (by omega) hs w
  have pA : 2 ^ s = 4294967296 * 2 ^ (s - 32) := by
    rw [show (4294967296 : Nat) = 2 ^ 32 from rfl, ← Nat.pow_add, show 32 + (s - 32) = s by omega]
  have pB : 2 ^ (64 - s) * 2 ^ (s - 32) = 4294967296 := by
    rw [← Nat.pow_add, show 64 - s + (s - 32) = 32 by omega]
  have pY : y * 2 ^ s < 18446744073709551616 := by
    have : y * 2 ^ s < 2 ^ Lib.bitLen y * 2 ^ s := Nat.mul_lt_mul_of_pos_right l3 (Nat.pow_pos (by omega))
    rw [← Nat.pow_add, hs] at this
    exact this
  obtain ⟨Y, V, P, X, U, L, Z1, Q1, M1, R1, W1, Q0, M0, R0, Q, R, d⟩ := div_steps hi lo y (2 ^ s) (2 ^ (64 - s)) (2 ^ (s - 32)) h1 h3 (Nat.pow_pos (by omega)) pA pB
  rw [d.hq, d.hr]
  have yY : Y < 18446744073709551616 := by rw [← d.hY]; exact pY
  have hYV := d.hYV
  have hUY := d.hUY
  have hU := d.hU
  have hZ1 := d.hZ1
  have hR1 := d.hR1
  have hR1V := d.hR1V
  have hQ1s := d.hQ1s
  have hW1 := d.hW1
  have hR0 := d.hR0
  have hR0V := d.hR0V
  have hQ0s := d.hQ0s
  have hQQ := d.hQQ
  obtain ⟨Z, hZ⟩ : ∃ Z, Z = 4294967296 * Z1 := ⟨_, rfl⟩
  have e2 : IntKind.u64.wrap ((y : Int) * 2 ^ s) = (Y : Int) := by rw [castMulPow, d.hY]; exact wrapUlt _ yY
  have e3 : (Y : Int) / 4294967296 = (V : Int) := by omega
  have e4 : bits .and .u64 (Y : Int) 4294967295 = 0 := by rw [Mul64.maskN Y yY]; omega
  have e5 : IntKind.u64.wrap ((hi : Int) * 2 ^ s) = (P : Int) := by rw [castMulPow, d.hP]; exact wrapUlt _ (by omega)
  have e6 : (lo : Int) / 2 ^ (64 - s) = (X : Int) := by rw [castDivPow, d.hX]
  have e7 : bits .or .u64 (P : Int) (X : Int) = (U : Int) := by
    rw [bits_or_u64_nat P X (by omega) (by omega), nat_join s P X (by rw [← d.hP]; exact Nat.mul_mod_left _ _) d.hXA, hU]
  have e8 : IntKind.u64.wrap ((lo : Int) * 2 ^ s) = (Z : Int) := by rw [castMulPow, wrapU, d.hZ, hZ]
  have e9 : (Z : Int) / 4294967296 = (Z1 : Int) := by omega
  have e10 : bits .and .u64 (Z : Int) 4294967295 = 0 := by rw [Mul64.maskN Z (by omega)]; omega
  have e11 : (U : Int) / (V : Int) = (Q1 : Int) := by rw [← Int.natCast_ediv, d.hQ1]
  have e12 : (Q1 : Int) * (V : Int) = (M1 : Int) := by rw [← Int.natCast_mul, d.hM1]
  have e13 : (U : Int) - (M1 : Int) = (R1 : Int) := by omega
  have f1 : Q1 * Y = 4294967296 * M1 := d.hQY1
  have f0 : Q0 * Y = 4294967296 * M0 := d.hQY0
  obtain ⟨a1, ha1⟩ : ∃ a1, a1 = U * 4294967296 % 18446744073709551616 := ⟨_, rfl⟩
  obtain ⟨a2, ha2⟩ : ∃ a2, a2 = (a1 + Z1) % 18446744073709551616 := ⟨_, rfl⟩
  obtain ⟨a3, ha3⟩ : ∃ a3, a3 = Q1 * Y % 18446744073709551616 := ⟨_, rfl⟩
  have e14 : IntKind.u64.wrap ((U : Int) * 4294967296) = (a1 : Int) := by rw [show (U : Int) * 4294967296 = ((U * 4294967296 : Nat) : Int) by omega, wrapU, ha1]
  have e15 : IntKind.u64.wrap ((a1 : Int) + (Z1 : Int)) = (a2 : Int) := by rw [show (a1 : Int) + (Z1 : Int) = ((a1 + Z1 : Nat) : Int) by omega, wrapU, ha2]
  have e16 : IntKind.u64.wrap ((Q1 : Int) * (Y : Int)) = (a3 : Int) := by rw [← Int.natCast_mul, wrapU, ha3]
  have e17 : IntKind.u64.wrap ((a2 : Int) - (a3 : Int)) = (W1 : Int) := by rw [IntKind.wrap_u64]; rw [f1] at ha3; omega
  have e18 : (W1 : Int) / (V : Int) = (Q0 : Int) := by rw [← Int.natCast_ediv, d.hQ0]
  have e19 : (Q0 : Int) * (V : Int) = (M0 : Int) := by rw [← Int.natCast_mul, d.hM0]
  have e20 : (W1 : Int) - (M0 : Int) = (R0 : Int) := by omega
  obtain ⟨a4, ha4⟩ : ∃ a4, a4 = W1 * 4294967296 % 18446744073709551616 := ⟨_, rfl⟩
  obtain ⟨a5, ha5⟩ : ∃ a5, a5 = Q0 * Y % 18446744073709551616 := ⟨_, rfl⟩
  obtain ⟨T, hT⟩ : ∃ T, T = R0 * 4294967296 := ⟨_, rfl⟩
  have e21 : IntKind.u64.wrap ((W1 : Int) * 4294967296) = (a4 : Int) := by rw [show (W1 : Int) * 4294967296 = ((W1 * 4294967296 : Nat) : Int) by omega, wrapU, ha4]
  have e22 : IntKind.u64.wrap ((Q0 : Int) * (Y : Int)) = (a5 : Int) := by rw [← Int.natCast_mul, wrapU, ha5]
  have e23 : IntKind.u64.wrap ((a4 : Int) - (a5 : Int)) = (T : Int) := by rw [IntKind.wrap_u64]; rw [f0] at ha5; omega
  have e24 : (T : Int) / 2 ^ s = (R : Int) := by rw [castDivPow, hT, d.hR]
  have t1 : ((y : Int) == 0) = false := beq_eq_false_iff_ne.2 (by omega)
  have t2 : decide ((y : Int) ≤ (hi : Int)) = false := by simp; omega
  have t3 : ((hi : Int) == 0) = false := beq_eq_false_iff_ne.2 (by omega)
  have b1 : 0 < V := by omega
  have b2 : V < 4294967296 := by omega
  have b3 : U < 18446744073709551616 := by omega
  have b4 : M1 ≤ U := by omega
  have b5 : M0 ≤ W1 := by omega
  have b6 : W1 < 18446744073709551616 := by omega
  have b7 : a4 < 18446744073709551616 := by omega
  have b8 : a1 < 18446744073709551616 := by omega
  have HQ : Hid (Q = Q1 * 4294967296 + Q0) := hQQ
  have t4 : decide (4294967296 ≤ (Q1 : Int)) = false := by simp; omega
  have t5 : decide (4294967296 ≤ (Q0 : Int)) = false := by simp; omega
  clear d hU hR1 hW1 hR0 hQQ hYV hZ f1 f0 ha1 ha2 ha3 ha4 ha5 hT pA pB pY l1 l2 l3 l30 hs
  go_enter Tryz.func67, Tryz.ntmps67
  go_wp2_with fail
  refine (HLZ.out _).mono ?_
  rintro e w1 ⟨rfl, rfl⟩
  go_wp2_with fail
  refine wp_loop_rounds 1 ?_
  rw [rounds_succ]
  go_wp2_with fail
  refine wp_loop_rounds 1 ?_
  rw [rounds_succ]
  go_wp2_with fail
  go_ret2
  refine ⟨?_, rfl⟩
  show Ending.returned (.tuple #[.int .u64 ((Q1 : Int) * 4294967296 + (Q0 : Int)), .int .u64 (R : Int)]) = _
  rw [show (Q1 : Int) * 4294967296 + (Q0 : Int) = (Q : Int) by have := HQ.out; omega]

theorem div64 (hi lo y : Nat) (w : World) (h1 : hi < y) (h2 : y ≤ 1000000000) (h3 : lo < 18446744073709551616) :
    Calls Tryz.prog 67 #[.int .u64 hi, .int .u64 lo, .int .u64 y] w fun e w' => e = .returned (.tuple #[.int .u64 ((hi * 18446744073709551616 + lo) / y : Nat), .int .u64 ((hi * 18446744073709551616 + lo) % y : Nat)]) ∧ Below w.heap.size w w' := by
  rcases Nat.eq_zero_or_pos hi with h | h
  · subst h
    rw [show 0 * 18446744073709551616 + lo = lo by omega]
    exact div64_small lo y w h1 h2 h3
  · refine (div64_big hi lo y w h h1 h2 h3).mono ?_
    rintro e w' ⟨rfl, rfl⟩
    exact ⟨rfl, Below.refl _ _⟩
end Go.Proofs.YtnefcldjigndgaaGreatDoor
