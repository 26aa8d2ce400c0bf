/- The arithmetic of math/bits.Div64 at a divisor below 2^30: the school's division of two words by one, of which each step is named. Nothing of the program is in it. -/
import Derived.WalkKit
import Derived.ProofKit
import Derived.Lib.BitFns
import Derived.Laws.Bits64b
namespace Go.Proofs.YtnefcldjigndgaaGreatDoor

theorem wrapU (a : Nat) : IntKind.u64.wrap (a : Int) = ((a % 18446744073709551616 : Nat) : Int) := by rw [IntKind.wrap_u64]; omega
theorem wrapUlt (a : Nat) (h : a < 18446744073709551616) : IntKind.u64.wrap (a : Int) = (a : Int) := by rw [IntKind.wrap_u64]; omega
theorem castMulPow (a s : Nat) : (a : Int) * 2 ^ s = ((a * 2 ^ s : Nat) : Int) := by rw [Int.natCast_mul, Int.natCast_pow]; rfl
theorem castDivPow (a s : Nat) : (a : Int) / 2 ^ s = ((a / 2 ^ s : Nat) : Int) := by rw [Int.natCast_ediv, Int.natCast_pow]; rfl

/-- The steps, as numbers. -/
structure DivN (hi lo y A B A1 Y V P X U L Z1 Q1 M1 R1 W1 Q0 M0 R0 Q R : Nat) : Prop where
  hY : y * A = Y
  hYV : Y = 4294967296 * V
  hP : hi * A = P
  hX : lo / B = X
  hXA : X < A
  hU : P + X = U
  hUY : U < Y
  hZ : lo * A % 18446744073709551616 = 4294967296 * Z1
  hZ1 : Z1 < 4294967296
  hQ1 : U / V = Q1
  hM1 : Q1 * V = M1
  hR1 : U = M1 + R1
  hR1V : R1 < V
  hQ1s : Q1 < 4294967296
  hW1 : W1 = R1 * 4294967296 + Z1
  hQ0 : W1 / V = Q0
  hM0 : Q0 * V = M0
  hR0 : W1 = M0 + R0
  hR0V : R0 < V
  hQ0s : Q0 < 4294967296
  hQY1 : Q1 * Y = 4294967296 * M1
  hQY0 : Q0 * Y = 4294967296 * M0
  hR : R0 * 4294967296 / A = R
  hq : (hi * 18446744073709551616 + lo) / y = Q
  hr : (hi * 18446744073709551616 + lo) % y = R
  hQQ : Q = Q1 * 4294967296 + Q0

theorem ac1 (h K a : Nat) : h * (K * a) * K = h * (K * K) * a := by ac_rfl
theorem ac2 (q K v : Nat) : q * (K * v) = K * (q * v) := by ac_rfl
theorem kk : 4294967296 * 4294967296 = 18446744073709551616 := by omega
theorem div_steps (hi lo y A B A1 : Nat) (h1 : hi < y) (h3 : lo < 18446744073709551616) (hA1 : 0 < A1) (hA : A = 4294967296 * A1) (hB : B * A1 = 4294967296) :
    ∃ Y V P X U L Z1 Q1 M1 R1 W1 Q0 M0 R0 Q R, DivN hi lo y A B A1 Y V P X U L Z1 Q1 M1 R1 W1 Q0 M0 R0 Q R := by
  have hBA : B * A = 18446744073709551616 := by rw [hA, Nat.mul_left_comm, hB]
  have hBpos : 0 < B := by
    rcases Nat.eq_zero_or_pos B with h | h
    · rw [h] at hB; simp at hB
    · exact h
  have hYV : y * A = 4294967296 * (y * A1) := by rw [hA, Nat.mul_left_comm]
  have hV : 0 < y * A1 := Nat.mul_pos (by omega) hA1
  have hPA : hi * A + A ≤ y * A := by rw [← Nat.succ_mul]; exact Nat.mul_le_mul_right A h1
  have hX : lo / B < A := by rw [Nat.div_lt_iff_lt_mul hBpos, Nat.mul_comm, hBA]; exact h3
  have hlo : lo = B * (lo / B) + lo % B := (Nat.div_add_mod lo B).symm
  have hL : lo % B < B := Nat.mod_lt _ hBpos
  have hloA : lo * A = 18446744073709551616 * (lo / B) + 4294967296 * (lo % B * A1) := by
    calc lo * A = (B * (lo / B) + lo % B) * A := by rw [← hlo]
      _ = B * A * (lo / B) + lo % B * A := by rw [Nat.add_mul, Nat.mul_right_comm]
      _ = _ := by rw [hBA, hA, Nat.mul_left_comm (lo % B)]
  have hLA : lo % B * A1 < 4294967296 := by
    rw [← hB]; exact Nat.mul_lt_mul_of_pos_right hL hA1
  have hZ : lo * A % 18446744073709551616 = 4294967296 * (lo % B * A1) := by
    rw [hloA, Nat.mul_add_mod]; exact Nat.mod_eq_of_lt (by omega)
  have hNA : (hi * 18446744073709551616 + lo) * A1 = (hi * A + lo / B) * 4294967296 + lo % B * A1 := by
    have a1 : lo * A1 = 4294967296 * (lo / B) + lo % B * A1 := by
      calc lo * A1 = (B * (lo / B) + lo % B) * A1 := by rw [← hlo]
        _ = B * A1 * (lo / B) + lo % B * A1 := by rw [Nat.add_mul, Nat.mul_right_comm]
        _ = _ := by rw [hB]
    have a2 : hi * A * 4294967296 = hi * 18446744073709551616 * A1 := by
      rw [hA, ac1, kk]
    have a3 : (hi * A + lo / B) * 4294967296 = hi * A * 4294967296 + lo / B * 4294967296 := Nat.add_mul _ _ _
    have a4 : (hi * 18446744073709551616 + lo) * A1 = hi * 18446744073709551616 * A1 + lo * A1 := Nat.add_mul _ _ _
    rw [a4, a3, a2, a1]; omega
  generalize hVe : y * A1 = V at *
  generalize hPe : hi * A = P at *
  generalize hXe : lo / B = X at *
  generalize hYe : y * A = Y at *
  generalize hZe : lo % B * A1 = Z1 at *
  have hUV : P + X < V * 4294967296 := by omega
  have d1 : (P + X) / V < 4294967296 := by rw [Nat.div_lt_iff_lt_mul hV]; omega
  have m1 : P + X = (P + X) / V * V + (P + X) % V := by have := Nat.div_add_mod (P + X) V; rw [Nat.mul_comm] at this; exact this.symm
  have l1 : (P + X) % V < V := Nat.mod_lt _ hV
  generalize hr1 : (P + X) % V = R1 at *
  generalize hq1 : (P + X) / V = Q1 at *
  have hWV : R1 * 4294967296 + Z1 < V * 4294967296 := by omega
  obtain ⟨W1, hW1⟩ : ∃ W1, W1 = R1 * 4294967296 + Z1 := ⟨_, rfl⟩
  rw [← hW1] at hWV
  have d0 : W1 / V < 4294967296 := by rw [Nat.div_lt_iff_lt_mul hV]; omega
  have m0 : W1 = W1 / V * V + W1 % V := by have := Nat.div_add_mod W1 V; rw [Nat.mul_comm] at this; exact this.symm
  have l0 : W1 % V < V := Nat.mod_lt _ hV
  generalize hr0 : W1 % V = R0 at *
  generalize hq0 : W1 / V = Q0 at *
  have hN : (hi * 18446744073709551616 + lo) * A1 = (Q1 * 4294967296 + Q0) * V + R0 := by
    have b1 : (Q1 * 4294967296 + Q0) * V = Q1 * V * 4294967296 + Q0 * V := by rw [Nat.add_mul, Nat.mul_right_comm]
    rw [hNA, b1]; omega
  have hN' : (hi * 18446744073709551616 + lo) * A1 = (Q1 * 4294967296 + Q0) * y * A1 + R0 := by rw [hN, Nat.mul_assoc, hVe]
  obtain ⟨n, hn⟩ : ∃ n, n = hi * 18446744073709551616 + lo := ⟨_, rfl⟩
  obtain ⟨Q, hq⟩ : ∃ Q, Q = Q1 * 4294967296 + Q0 := ⟨_, rfl⟩
  rw [← hn, ← hq] at hN'
  have hge : Q * y ≤ n := by
    refine Nat.le_of_mul_le_mul_right ?_ hA1
    omega
  obtain ⟨R, hR⟩ := Nat.exists_eq_add_of_le hge
  have hRR : R * A1 = R0 := by rw [hR, Nat.add_mul] at hN'; omega
  have hRy : R < y := by
    refine Nat.lt_of_mul_lt_mul_right (a := A1) ?_
    rw [hVe, hRR]; exact l0
  have hRA : R0 * 4294967296 / A = R := by
    have c1 : R0 * 4294967296 = R * A := by rw [← hRR, hA, Nat.mul_assoc, Nat.mul_comm A1]
    rw [c1]
    exact Nat.mul_div_cancel _ (by omega)
  have g1 : n / y = Q := by
    rw [hR, Nat.add_comm, Nat.add_mul_div_right _ _ (by omega), Nat.div_eq_of_lt hRy, Nat.zero_add]
  have g2 : n % y = R := by
    rw [hR, Nat.add_comm, Nat.add_mul_mod_self_right, Nat.mod_eq_of_lt hRy]
  refine ⟨Y, V, P, X, P + X, lo % B, Z1, Q1, Q1 * V, R1, W1, Q0, Q0 * V, R0, Q, R, ?_⟩
  exact { hY := hYe, hYV := hYV, hP := hPe, hX := hXe, hXA := hX, hU := rfl, hUY := by omega, hZ := hZ, hZ1 := hLA, hQ1 := hq1, hM1 := rfl, hR1 := m1, hR1V := l1, hQ1s := d1, hW1 := hW1, hQ0 := hq0, hM0 := rfl, hR0 := m0, hR0V := l0, hQ0s := d0, hQY1 := by rw [hYV, ac2], hQY0 := by rw [hYV, ac2], hR := hRA, hq := by rw [← hn]; exact g1, hr := by rw [← hn]; exact g2, hQQ := hq }

/-- The length in bits of a number from 1 on lies between two powers. -/
theorem bitLenAux_bounds : ∀ (f x : Nat), 0 < x → x < 2 ^ f → 1 ≤ Lib.bitLenAux f x ∧ 2 ^ (Lib.bitLenAux f x - 1) ≤ x ∧ x < 2 ^ Lib.bitLenAux f x
  | 0, x, h0, h => by simp at h; omega
  | f + 1, x, h0, h => by
    unfold Lib.bitLenAux
    rw [if_neg (by omega)]
    by_cases h2 : x / 2 = 0
    · have hx : x = 1 := by omega
      subst hx
      have e : Lib.bitLenAux f (1 / 2) = 0 := by cases f <;> simp [Lib.bitLenAux]
      rw [e]; decide
    · obtain ⟨b1, b2, b3⟩ := bitLenAux_bounds f (x / 2) (by omega) (by rw [Nat.pow_succ] at h; omega)
      generalize Lib.bitLenAux f (x / 2) = l at *
      obtain ⟨m, rfl⟩ : ∃ m, l = m + 1 := ⟨l - 1, by omega⟩
      rw [Nat.add_comm 1, Nat.add_sub_cancel] at *
      rw [Nat.pow_succ] at *
      omega
theorem bitLen_bounds (x : Nat) (h0 : 0 < x) (h1 : x < 2 ^ 64) : 1 ≤ Lib.bitLen x ∧ 2 ^ (Lib.bitLen x - 1) ≤ x ∧ x < 2 ^ Lib.bitLen x := bitLenAux_bounds 64 x h0 h1
end Go.Proofs.YtnefcldjigndgaaGreatDoor
