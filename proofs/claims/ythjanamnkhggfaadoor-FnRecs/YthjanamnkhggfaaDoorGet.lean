/- The two ways to get a number from bytes (spec.GetNum, impl.GetNum): what each call does. -/
import Derived.Test.YthjanamnkhggfaaDoorUnfold
namespace Go.Proofs.YthjanamnkhggfaaDoor.Draw
open Go.RowKit

def byteAt (s : ByteArray) (i : Nat) : Nat := (s.data.toList.getD i 0).toNat
/-- A number read from place a on: f bytes more may come, i have come, u is what they give. -/
def getF (s : ByteArray) (a : Nat) : Nat → Nat → Nat → Int × Int × Int
  | 0, _, _ => (0, 0, 3)
  | f + 1, i, u =>
    if s.size ≤ a + i then (0, 0, 4)
    else if i = 9 ∧ 1 < byteAt s (a + i) then (0, 0, 3)
    else if byteAt s (a + i) < 128 then
      (if byteAt s (a + i) = 0 ∧ 0 < i then (0, 0, 3) else (unfZ (u + byteAt s (a + i) % 128 * 2 ^ (7 * i)), (a : Int) + i + 1, 0))
    else getF s a f (i + 1) (u + byteAt s (a + i) % 128 * 2 ^ (7 * i))
def getB (s : ByteArray) (a : Int) : Int × Int × Int :=
  if s.size ≤ 20000 then (if a < 0 then (0, 0, 1) else if (s.size : Int) ≤ a then (0, 0, 4) else getF s a.toNat 10 0 0) else (0, 0, 2)
def numV (r : Int × Int × Int) : Value := .agg #[.int .i64 r.1, .int .i64 r.2.1, .int .i64 r.2.2]

theorem getF_short {s : ByteArray} {a f i u : Nat} (h : s.size ≤ a + i) : getF s a (f + 1) i u = (0, 0, 4) := by simp [getF, h]
theorem getB_nat (s : ByteArray) (A : Nat) (h : s.size ≤ 20000) : getB s A = getF s A 10 0 0 := by
  unfold getB
  rw [if_pos h, if_neg (by omega)]
  split
  · rw [getF_short (by omega)]
  · rw [Int.toNat_natCast]
/-- What holds when k bytes have come. -/
structure Get (s : ByteArray) (a k u : Nat) (R : Int × Int × Int) : Prop where
  le : k ≤ 10
  low : k ≤ 9 → u < 2 ^ (7 * k)
  all : getF s a (10 - k) k u = R

theorem unfZ_or (u : Nat) : unfZ u = bif ((u : Int) % 2 == 1) then -((u : Int) / 2) - 1 else (u : Int) / 2 := by
  unfold unfZ
  by_cases h : u % 2 = 1
  · have e : ((u : Int) % 2 == 1) = true := beq_iff_eq.2 (by omega)
    rw [if_pos h, e, cond_true]; omega
  · have e : ((u : Int) % 2 == 1) = false := beq_eq_false_iff_ne.2 (by omega)
    rw [if_neg h, e, cond_false]; omega
theorem byteAt_eq (s : ByteArray) (k : Nat) (h : k < s.size) : byteAt s k = s[k].toNat := by unfold byteAt; rw [getD_at s k h]
theorem pow_le (k : Nat) (h : k ≤ 9) : 2 ^ (7 * k) ≤ 2 ^ 63 := Nat.pow_le_pow_right (by omega) (by omega)
theorem pow_le8 (k : Nat) (h : k ≤ 8) : 2 ^ (7 * k) * 128 ≤ 2 ^ 63 := by
  have e : 2 ^ (7 * k) * 128 = 2 ^ (7 * (k + 1)) := by rw [Nat.mul_add, Nat.pow_add]
  rw [e]
  exact pow_le (k + 1) (by omega)
theorem wrapU (n : Int) (h0 : 0 ≤ n) (h1 : n ≤ 18446744073709551615) : IntKind.u64.wrap n = n := by
  simp [IntKind.wrap, IntKind.bits, IntKind.signed]; omega
/-- One byte more: no bit is lost, unless it is a tenth byte above 1. -/
theorem more_fits (u c k : Nat) (hk : k ≤ 9) (hu : u < 2 ^ (7 * k)) (hc : k = 9 → c ≤ 1) : u + c % 128 * 2 ^ (7 * k) ≤ 18446744073709551615 ∧ (k ≤ 8 → u + c % 128 * 2 ^ (7 * k) < 2 ^ (7 * (k + 1))) := by
  have e : 2 ^ (7 * (k + 1)) = 2 ^ (7 * k) * 128 := by rw [Nat.mul_add, Nat.pow_add]
  have hm : c % 128 * 2 ^ (7 * k) ≤ 127 * 2 ^ (7 * k) := Nat.mul_le_mul_right _ (by omega)
  generalize hP : 2 ^ (7 * k) = p at *
  constructor
  · by_cases h9 : k = 9
    · subst h9
      have : p = 9223372036854775808 := by rw [← hP]
      subst this
      have := hc rfl
      omega
    · have := pow_le8 k (by omega)
      rw [hP] at this
      omega
  · intro _
    rw [e]
    omega
theorem more_wrap (u c k : Nat) (hk : k ≤ 9) (hu : u < 2 ^ (7 * k)) (hc : k = 9 → c ≤ 1) : IntKind.u64.wrap ((u : Int) + IntKind.u64.wrap ((c : Int) % 128 * 2 ^ (7 * k))) = ((u + c % 128 * 2 ^ (7 * k) : Nat) : Int) := by
  have h := (more_fits u c k hk hu hc).1
  have e : (c : Int) % 128 * 2 ^ (7 * k) = ((c % 128 * 2 ^ (7 * k) : Nat) : Int) := by simp
  rw [e]
  generalize c % 128 * 2 ^ (7 * k) = x at *
  rw [wrapU (x : Int) (by omega) (by omega), wrapU _ (by omega) (by omega)]
  omega
section
variable {s : ByteArray} {a k u : Nat} {R : Int × Int × Int}
theorem Get.short (h : Get s a k u R) (hk : k < 10) (hs : s.size ≤ a + k) : R = (0, 0, 4) := by
  rw [← h.all, show 10 - k = (9 - k) + 1 by omega, getF_short hs]
theorem Get.full (h : Get s a k u R) (hk : ¬ k < 10) : R = (0, 0, 3) := by
  rw [← h.all, show 10 - k = 0 by omega]; rfl
theorem Get.tenth (h : Get s a k u R) (hk : k = 9) (hs : a + k < s.size) (hc : 1 < s[a + k].toNat) : R = (0, 0, 3) := by
  rw [← h.all, show 10 - k = (9 - k) + 1 by omega, getF, if_neg (by omega), if_pos ⟨hk, by rw [byteAt_eq s _ hs]; exact hc⟩]
theorem Get.more (h : Get s a k u R) (hk : k < 9) (hs : a + k < s.size) (hc : 128 ≤ s[a + k].toNat) : Get s a (k + 1) (u + s[a + k].toNat % 128 * 2 ^ (7 * k)) R := by
  refine ⟨by omega, fun _ => (more_fits u _ k (by omega) (h.low (by omega)) (by omega)).2 (by omega), ?_⟩
  rw [← h.all, show 10 - k = (9 - k) + 1 by omega, getF, byteAt_eq s _ hs, if_neg (by omega), if_neg (by omega), if_neg (by omega)]
  rw [show 10 - (k + 1) = 9 - k by omega]
theorem Get.nought (h : Get s a k u R) (hk : k < 10) (h0 : 0 < k) (hs : a + k < s.size) (hc : s[a + k].toNat = 0) : R = (0, 0, 3) := by
  rw [← h.all, show 10 - k = (9 - k) + 1 by omega, getF, byteAt_eq s _ hs, if_neg (by omega), if_neg (by omega), if_pos (by omega), if_pos ⟨hc, h0⟩]
theorem Get.last (h : Get s a k u R) (hk : k < 10) (hs : a + k < s.size) (hc : s[a + k].toNat < 128) (h9 : k = 9 → s[a + k].toNat ≤ 1) (hz : ¬ (s[a + k].toNat = 0 ∧ 0 < k)) :
    R = (unfZ (u + s[a + k].toNat % 128 * 2 ^ (7 * k)), (a : Int) + k + 1, 0) := by
  rw [← h.all, show 10 - k = (9 - k) + 1 by omega, getF, byteAt_eq s _ hs, if_neg (by omega), if_neg (by omega), if_pos hc, if_neg hz]
end


end Go.Proofs.YthjanamnkhggfaaDoor.Draw
