/- Shares of money (spec.MulDiv, impl.MulDiv): a times b over c, to the nearest, halves to the even one: what each call does. -/
import Derived.Test.YtnefcldjigndgaaGreatDoorDiv
import Derived.Test.YtnefcldjigndgaaGreatDoorTimesLaw
namespace Go.Proofs.YtnefcldjigndgaaGreatDoor
open Go.RowKit

def roundN (q r c : Nat) : Nat := if c < 2 * r ∨ (2 * r = c ∧ q % 2 = 1) then q + 1 else q
def nearN (p c : Nat) : Nat := roundN (p / c) (p % c) c
theorem roundN_ge (q r c : Nat) : q ≤ roundN q r c ∧ roundN q r c ≤ q + 1 := by unfold roundN; split <;> omega
def okMD (a b c : Int) : Bool := rightB a && (decide (0 ≤ b) && (decide (b ≤ 10000000000) && (decide (1 ≤ c) && decide (c ≤ 1000000000))))
def signZ (a : Int) (m : Nat) : Int := if a < 0 then -(m : Int) else m
def mulDivB (a b c : Int) : Int × Int := if okMD a b c then outB (signZ a (nearN (a.natAbs * b.toNat) c.toNat)) else (0, 1)
theorem mulDivB_zero (a b c : Int) : (mulDivB a b c).2 ≠ 0 → (mulDivB a b c).1 = 0 := by
  unfold mulDivB
  split
  · exact outB_zero _
  · simp
theorem outB_sign_no (a : Int) (m : Nat) (h : 1000000000000 < m) : outB (signZ a m) = (0, 13) := by
  refine outB_no ?_
  unfold signZ
  split <;> omega

set_option maxHeartbeats 400000 in
theorem impl_nearest (q r c : Nat) (w : World) (hq : q ≤ 1000000000000) (hr : r ≤ 1000000000) :
    Calls Tryz.prog 70 #[.int .u64 q, .int .u64 r, .int .u64 c] w fun e w' => e = .returned (.int .u64 (roundN q r c : Nat)) ∧ w' = w := by
  by_cases h1 : c < 2 * r
  · have HR : Hid (roundN q r c = q + 1) := by simp [Hid, roundN, h1]
    have t1 : decide ((c : Int) < 2 * (r : Int)) = true := by simp; omega
    go_enter Tryz.func70, Tryz.ntmps70
    go_wp2
    go_ret
    refine ⟨?_, rfl⟩
    rw [HR.out]; rfl
  have t1 : decide ((c : Int) < 2 * (r : Int)) = false := by simp; omega
  by_cases h2 : 2 * r = c
  · have t2 : (2 * (r : Int) == (c : Int)) = true := by rw [beq_iff_eq]; omega
    by_cases h3 : q % 2 = 1
    · have HR : Hid (roundN q r c = q + 1) := by simp [Hid, roundN, h2, h3]
      have t3 : ((q : Int) % 2 == 1) = true := by rw [beq_iff_eq]; omega
      clear h2 h3
      go_enter Tryz.func70, Tryz.ntmps70
      go_wp2
      go_ret
      refine ⟨?_, rfl⟩
      rw [HR.out]; rfl
    · have HR : Hid (roundN q r c = q) := by simp [Hid, roundN, h1, h3]
      have t3 : ((q : Int) % 2 == 1) = false := beq_eq_false_iff_ne.2 (by omega)
      clear h2 h3
      go_enter Tryz.func70, Tryz.ntmps70
      go_wp2
      go_ret
      refine ⟨?_, rfl⟩
      rw [HR.out]; rfl
  · have HR : Hid (roundN q r c = q) := by simp [Hid, roundN, h1, h2]
    have t2 : (2 * (r : Int) == (c : Int)) = false := beq_eq_false_iff_ne.2 (by omega)
    clear h2
    go_enter Tryz.func70, Tryz.ntmps70
    go_wp2
    go_ret
    refine ⟨?_, rfl⟩
    rw [HR.out]; rfl

set_option maxHeartbeats 2000000 in
theorem impl_mulDivM (a b c : Int) (w : World) :
    Calls Tryz.prog 50 #[.int .i64 a, .int .i64 b, .int .i64 c] w fun e w' => e = .returned (tupV (mulDivB a b c)) ∧ Below w.heap.size w w' := by
  cases ha : rightB a
  · have HR : Hid (mulDivB a b c = (0, 1)) := by simp [Hid, mulDivB, okMD, ha]
    have H : Hid (rightB a = false) := ha
    clear ha
    go_enter Tryz.func50, Tryz.ntmps50
    go_wp2_with fail
    refine (impl_right _ _).mono ?_
    rintro e w1 ⟨rfl, rfl⟩
    rw [H.out]
    go_wp2_with fail
    go_ret2
    refine ⟨?_, Below.refl _ _⟩
    rw [HR.out, tupV_err _ _ (by decide)]; rfl
  have H : Hid (rightB a = true) := ha
  by_cases k0 : 0 ≤ b
  case neg =>
    have HR : Hid (mulDivB a b c = (0, 1)) := by simp [Hid, mulDivB, okMD, k0]
    have t0 : decide (b < 0) = true := by simp; omega
    clear ha
    go_enter Tryz.func50, Tryz.ntmps50
    go_wp2_with fail
    refine (impl_right _ _).mono ?_
    rintro e w1 ⟨rfl, rfl⟩
    rw [H.out]
    go_wp2_with fail
    go_ret2
    refine ⟨?_, Below.refl _ _⟩
    rw [HR.out, tupV_err _ _ (by decide)]; rfl
  have t0 : decide (b < 0) = false := by simp; omega
  by_cases k1 : b ≤ 10000000000
  case neg =>
    have HR : Hid (mulDivB a b c = (0, 1)) := by simp [Hid, mulDivB, okMD, k1]
    have t1 : decide (10000000000 < b) = true := by simp; omega
    clear ha
    go_enter Tryz.func50, Tryz.ntmps50
    go_wp2_with fail
    refine (impl_right _ _).mono ?_
    rintro e w1 ⟨rfl, rfl⟩
    rw [H.out]
    go_wp2_with fail
    go_ret2
    refine ⟨?_, Below.refl _ _⟩
    rw [HR.out, tupV_err _ _ (by decide)]; rfl
  have t1 : decide (10000000000 < b) = false := by simp; omega
  by_cases k2 : 1 ≤ c
  case neg =>
    have HR : Hid (mulDivB a b c = (0, 1)) := by simp [Hid, mulDivB, okMD, k2]
    have t2 : decide (c < 1) = true := by simp; omega
    clear ha
    go_enter Tryz.func50, Tryz.ntmps50
    go_wp2_with fail
    refine (impl_right _ _).mono ?_
    rintro e w1 ⟨rfl, rfl⟩
    rw [H.out]
    go_wp2_with fail
    go_ret2
    refine ⟨?_, Below.refl _ _⟩
    rw [HR.out, tupV_err _ _ (by decide)]; rfl
  have t2 : decide (c < 1) = false := by simp; omega
  by_cases k3 : c ≤ 1000000000
  case neg =>
    have HR : Hid (mulDivB a b c = (0, 1)) := by simp [Hid, mulDivB, okMD, k3]
    have t3 : decide (1000000000 < c) = true := by simp; omega
    clear ha
    go_enter Tryz.func50, Tryz.ntmps50
    go_wp2_with fail
    refine (impl_right _ _).mono ?_
    rintro e w1 ⟨rfl, rfl⟩
    rw [H.out]
    go_wp2_with fail
    go_ret2
    refine ⟨?_, Below.refl _ _⟩
    rw [HR.out, tupV_err _ _ (by decide)]; rfl
  have t3 : decide (1000000000 < c) = false := by simp; omega
  have hT : mulDivB a b c = outB (signZ a (nearN (a.natAbs * b.toNat) c.toNat)) := by simp [mulDivB, okMD, ha, k0, k1, k2, k3]
  obtain ⟨a0, a1⟩ := (rightB_iff a).1 ha
  clear ha
  obtain ⟨b', rfl⟩ : ∃ b' : Nat, b = b' := ⟨b.toNat, by omega⟩
  obtain ⟨c', rfl⟩ : ∃ c' : Nat, c = c' := ⟨c.toNat, by omega⟩
  rw [Int.toNat_natCast, Int.toNat_natCast] at hT
  have hm := fun w => mul64 a.natAbs b' (by omega) (by omega) w
  have hpb : a.natAbs * b' ≤ 10000000000000000000000 := by
    have := Nat.mul_le_mul (show a.natAbs ≤ 1000000000000 by omega) (show b' ≤ 10000000000 by omega)
    omega
  generalize a.natAbs * b' = p at hm hT hpb
  have hlo : p % 18446744073709551616 < 18446744073709551616 := Nat.mod_lt _ (by omega)
  have hhl : p / 18446744073709551616 * 18446744073709551616 + p % 18446744073709551616 = p := by omega
  generalize p / 18446744073709551616 = hi at hm hhl
  generalize p % 18446744073709551616 = lo at hm hhl hlo
  have HM : Hid (∀ w, Calls Tryz.prog 65 #[.int .u64 (a.natAbs : Int), .int .u64 (b' : Int)] w fun e w' => e = .returned (.tuple #[.int .u64 (hi : Int), .int .u64 (lo : Int)]) ∧ w' = w) := hm
  clear hm
  have hq : p / c' * c' + p % c' = p := by rw [Nat.mul_comm]; exact Nat.div_add_mod p c'
  have hrr : p % c' < c' := Nat.mod_lt _ (by omega)
  by_cases hge : c' ≤ hi
  · have HR : Hid (mulDivB a b' c' = (0, 13)) := by
      rw [Hid, hT]
      refine outB_sign_no a _ ?_
      have h1 := (roundN_ge (p / c') (p % c') c').1
      have h2 : 18446744073709551616 ≤ p / c' := by
        rw [Nat.le_div_iff_mul_le (by omega)]
        have := Nat.mul_le_mul_left 18446744073709551616 hge
        omega
      unfold nearN
      omega
    have t5 : decide (c' ≤ hi) = true := by simp; omega
    clear hT hhl hq hrr hpb
    go_enter Tryz.func50, Tryz.ntmps50
    go_wp2_with fail
    refine (impl_right _ _).mono ?_
    rintro e w1 ⟨rfl, rfl⟩
    rw [H.out]
    go_wp2_with fail
    refine (impl_mag _ _ (by omega) (by omega)).mono ?_
    rintro e w1 ⟨rfl, rfl⟩
    go_wp2_with fail
    refine (HM.out _).mono ?_
    rintro e w1 ⟨rfl, rfl⟩
    go_wp2_with fail
    go_ret2
    refine ⟨?_, Below.refl _ _⟩
    rw [HR.out, tupV_err _ _ (by decide)]; rfl
  have t5 : decide (c' ≤ hi) = false := by simp; omega
  have hd := fun w => div64 hi lo c' w (by omega) (by omega) hlo
  rw [hhl] at hd
  have hnear : nearN p c' = roundN (p / c') (p % c') c' := rfl
  generalize p / c' = q at hd hq hnear
  generalize p % c' = r at hd hq hrr hnear
  have HD : Hid (∀ w, Calls Tryz.prog 67 #[.int .u64 (hi : Int), .int .u64 (lo : Int), .int .u64 (c' : Int)] w fun e w' => e = .returned (.tuple #[.int .u64 (q : Int), .int .u64 (r : Int)]) ∧ Below w.heap.size w w') := hd
  have hrb := roundN_ge q r c'
  clear hd hhl hq hpb hge
  by_cases hbig : 1000000000000 < q
  · have HR : Hid (mulDivB a b' c' = (0, 13)) := by
      rw [Hid, hT, hnear]
      exact outB_sign_no a _ (by omega)
    have t6 : decide (1000000000000 < (q : Int)) = true := by simp; omega
    clear hT hnear
    go_enter Tryz.func50, Tryz.ntmps50
    go_wp2_with fail
    refine (impl_right _ _).mono ?_
    rintro e w1 ⟨rfl, rfl⟩
    rw [H.out]
    go_wp2_with fail
    refine (impl_mag _ _ (by omega) (by omega)).mono ?_
    rintro e w1 ⟨rfl, rfl⟩
    go_wp2_with fail
    refine (HM.out _).mono ?_
    rintro e w1 ⟨rfl, rfl⟩
    go_wp2_with fail
    refine (HD.out _).mono ?_
    rintro e w2 ⟨rfl, hb⟩
    go_wp2_with fail
    go_ret2
    refine ⟨?_, hb⟩
    rw [HR.out, tupV_err _ _ (by decide)]; rfl
  have t6 : decide (1000000000000 < (q : Int)) = false := by simp; omega
  have HN : Hid (∀ w, Calls Tryz.prog 70 #[.int .u64 (q : Int), .int .u64 (r : Int), .int .u64 (c' : Int)] w fun e w' => e = .returned (.int .u64 (roundN q r c' : Nat)) ∧ w' = w) := fun w => impl_nearest q r c' w (by omega) (by omega)
  rw [hnear] at hT
  generalize roundN q r c' = m at hT hrb HN
  have hmb : m ≤ 1000000000001 := by omega
  clear hnear hrb
  by_cases hsa : a < 0
  · have ta : decide (a < 0) = true := by simp; omega
    have HR : Hid (mulDivB a b' c' = outB (-(m : Int))) := by rw [Hid, hT]; simp [signZ, hsa]
    clear hT
    go_enter Tryz.func50, Tryz.ntmps50
    go_wp2_with fail
    refine (impl_right _ _).mono ?_
    rintro e w1 ⟨rfl, rfl⟩
    rw [H.out]
    go_wp2_with fail
    refine (impl_mag _ _ (by omega) (by omega)).mono ?_
    rintro e w1 ⟨rfl, rfl⟩
    go_wp2_with fail
    refine (HM.out _).mono ?_
    rintro e w1 ⟨rfl, rfl⟩
    go_wp2_with fail
    refine (HD.out _).mono ?_
    rintro e w2 ⟨rfl, hb⟩
    go_wp2_with fail
    refine (HN.out _).mono ?_
    rintro e w3 ⟨rfl, rfl⟩
    go_wp2_with fail
    refine (impl_sign_yes _ _ (by omega)).mono ?_
    rintro e w3 ⟨rfl, rfl⟩
    go_wp2_with fail
    refine (impl_in _ _).mono ?_
    rintro e w3 ⟨rfl, rfl⟩
    simp only [tupV]
    go_wp2_with fail
    go_ret2
    refine ⟨?_, hb⟩
    rw [HR.out]
    rfl
  · have ta : decide (a < 0) = false := by simp; omega
    have HR : Hid (mulDivB a b' c' = outB (m : Int)) := by rw [Hid, hT]; simp [signZ, hsa]
    clear hT
    go_enter Tryz.func50, Tryz.ntmps50
    go_wp2_with fail
    refine (impl_right _ _).mono ?_
    rintro e w1 ⟨rfl, rfl⟩
    rw [H.out]
    go_wp2_with fail
    refine (impl_mag _ _ (by omega) (by omega)).mono ?_
    rintro e w1 ⟨rfl, rfl⟩
    go_wp2_with fail
    refine (HM.out _).mono ?_
    rintro e w1 ⟨rfl, rfl⟩
    go_wp2_with fail
    refine (HD.out _).mono ?_
    rintro e w2 ⟨rfl, hb⟩
    go_wp2_with fail
    refine (HN.out _).mono ?_
    rintro e w3 ⟨rfl, rfl⟩
    go_wp2_with fail
    refine (impl_sign_no _ _ (by omega)).mono ?_
    rintro e w3 ⟨rfl, rfl⟩
    go_wp2_with fail
    refine (impl_in _ _).mono ?_
    rintro e w3 ⟨rfl, rfl⟩
    simp only [tupV]
    go_wp2_with fail
    go_ret2
    refine ⟨?_, hb⟩
    rw [HR.out]
    rfl

end Go.Proofs.YtnefcldjigndgaaGreatDoor
