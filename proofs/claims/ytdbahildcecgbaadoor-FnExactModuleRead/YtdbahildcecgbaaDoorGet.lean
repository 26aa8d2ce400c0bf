/- The two ways to get a number from bytes (spec.GetNum, impl.GetNum): what each call does. -/
import Derived.Test.YtdbahildcecgbaaDoorUnfold
namespace Go.Proofs.YtdbahildcecgbaaDoor.Draw
open Go.RowKit

def byteAt (s : ByteArray) (i : Nat) : Nat := (s.data.toList.getD i 0).toNat
/-- A number read from place a on: f bytes more may come, i have come, u is what they give. -/
def getF (s : ByteArray) (a : Nat) : Nat → Nat → Nat → Int × Int × Int
  | 0, _, _ => (0, 0, 3)
  | f + 1, i, u =>
    if s.size ≤ a + i then (0, 0, 4)
    else if i = 9 ∧ 1 < byteAt s (a + i) then (0, 0, 3)
    else if byteAt s (a + i) < 128 then
      (if byteAt s (a + i) = 0 ∧ 0 < i then (0, 0, 3) else (unfZ (u + byteAt s (a + i) % 128 * 2 ^ (7 * i)), (a : Int) + i + 1, 0))
    else getF s a f (i + 1) (u + byteAt s (a + i) % 128 * 2 ^ (7 * i))
def getB (s : ByteArray) (a : Int) : Int × Int × Int :=
  if s.size ≤ 20000 then (if a < 0 then (0, 0, 1) else if (s.size : Int) ≤ a then (0, 0, 4) else getF s a.toNat 10 0 0) else (0, 0, 2)
def numV (r : Int × Int × Int) : Value := .agg #[.int .i64 r.1, .int .i64 r.2.1, .int .i64 r.2.2]

theorem getF_short {s : ByteArray} {a f i u : Nat} (h : s.size ≤ a + i) : getF s a (f + 1) i u = (0, 0, 4) := by simp [getF, h]
theorem getB_nat (s : ByteArray) (A : Nat) (h : s.size ≤ 20000) : getB s A = getF s A 10 0 0 := by
  unfold getB
  rw [if_pos h, if_neg (by omega)]
  split
  · rw [getF_short (by omega)]
  · rw [Int.toNat_natCast]
/-- What holds when k bytes have come. -/
structure Get (s : ByteArray) (a k u : Nat) (R : Int × Int × Int) : Prop where
  le : k ≤ 10
  low : k ≤ 9 → u < 2 ^ (7 * k)
  all : getF s a (10 - k) k u = R

theorem unfZ_or (u : Nat) : unfZ u = bif ((u : Int) % 2 == 1) then -((u : Int) / 2) - 1 else (u : Int) / 2 := by
  unfold unfZ
  by_cases h : u % 2 = 1
  · have e : ((u : Int) % 2 == 1) = true := beq_iff_eq.2 (by omega)
    rw [if_pos h, e, cond_true]; omega
  · have e : ((u : Int) % 2 == 1) = false := beq_eq_false_iff_ne.2 (by omega)
    rw [if_neg h, e, cond_false]; omega
theorem byteAt_eq (s : ByteArray) (k : Nat) (h : k < s.size) : byteAt s k = s[k].toNat := by unfold byteAt; rw [getD_at s k h]
theorem pow_le (k : Nat) (h : k ≤ 9) : 2 ^ (7 * k) ≤ 2 ^ 63 := Nat.pow_le_pow_right (by omega) (by omega)
theorem pow_le8 (k : Nat) (h : k ≤ 8) : 2 ^ (7 * k) * 128 ≤ 2 ^ 63 := by
  have e : 2 ^ (7 * k) * 128 = 2 ^ (7 * (k + 1)) := by rw [Nat.mul_add, Nat.pow_add]
  rw [e]
  exact pow_le (k + 1) (by omega)
theorem wrapU (n : Int) (h0 : 0 ≤ n) (h1 : n ≤ 18446744073709551615) : IntKind.u64.wrap n = n := by
  simp [IntKind.wrap, IntKind.bits, IntKind.signed]; omega
/-- One byte more: no bit is lost, unless it is a tenth byte above 1. -/
theorem more_fits (u c k : Nat) (hk : k ≤ 9) (hu : u < 2 ^ (7 * k)) (hc : k = 9 → c ≤ 1) : u + c % 128 * 2 ^ (7 * k) ≤ 18446744073709551615 ∧ (k ≤ 8 → u + c % 128 * 2 ^ (7 * k) < 2 ^ (7 * (k + 1))) := by
  have e : 2 ^ (7 * (k + 1)) = 2 ^ (7 * k) * 128 := by rw [Nat.mul_add, Nat.pow_add]
  have hm : c % 128 * 2 ^ (7 * k) ≤ 127 * 2 ^ (7 * k) := Nat.mul_le_mul_right _ (by omega)
  generalize hP : 2 ^ (7 * k) = p at *
  constructor
  · by_cases h9 : k = 9
    · subst h9
      have : p = 9223372036854775808 := by rw [← hP]
      subst this
      have := hc rfl
      omega
    · have := pow_le8 k (by omega)
      rw [hP] at this
      omega
  · intro _
    rw [e]
    omega
theorem more_wrap (u c k : Nat) (hk : k ≤ 9) (hu : u < 2 ^ (7 * k)) (hc : k = 9 → c ≤ 1) : IntKind.u64.wrap ((u : Int) + IntKind.u64.wrap ((c : Int) % 128 * 2 ^ (7 * k))) = ((u + c % 128 * 2 ^ (7 * k) : Nat) : Int) := by
  have h := (more_fits u c k hk hu hc).1
  have e : (c : Int) % 128 * 2 ^ (7 * k) = ((c % 128 * 2 ^ (7 * k) : Nat) : Int) := by simp
  rw [e]
  generalize c % 128 * 2 ^ (7 * k) = x at *
  rw [wrapU (x : Int) (by omega) (by omega), wrapU _ (by omega) (by omega)]
  omega
section
variable {s : ByteArray} {a k u : Nat} {R : Int × Int × Int}
theorem Get.short (h : Get s a k u R) (hk : k < 10) (hs : s.size ≤ a + k) : R = (0, 0, 4) := by
  rw [← h.all, show 10 - k = (9 - k) + 1 by omega, getF_short hs]
theorem Get.full (h : Get s a k u R) (hk : ¬ k < 10) : R = (0, 0, 3) := by
  rw [← h.all, show 10 - k = 0 by omega]; rfl
theorem Get.tenth (h : Get s a k u R) (hk : k = 9) (hs : a + k < s.size) (hc : 1 < s[a + k].toNat) : R = (0, 0, 3) := by
  rw [← h.all, show 10 - k = (9 - k) + 1 by omega, getF, if_neg (by omega), if_pos ⟨hk, by rw [byteAt_eq s _ hs]; exact hc⟩]
theorem Get.more (h : Get s a k u R) (hk : k < 9) (hs : a + k < s.size) (hc : 128 ≤ s[a + k].toNat) : Get s a (k + 1) (u + s[a + k].toNat % 128 * 2 ^ (7 * k)) R := by
  refine ⟨by omega, fun _ => (more_fits u _ k (by omega) (h.low (by omega)) (by omega)).2 (by omega), ?_⟩
  rw [← h.all, show 10 - k = (9 - k) + 1 by omega, getF, byteAt_eq s _ hs, if_neg (by omega), if_neg (by omega), if_neg (by omega)]
  rw [show 10 - (k + 1) = 9 - k by omega]
theorem Get.nought (h : Get s a k u R) (hk : k < 10) (h0 : 0 < k) (hs : a + k < s.size) (hc : s[a + k].toNat = 0) : R = (0, 0, 3) := by
  rw [← h.all, show 10 - k = (9 - k) + 1 by omega, getF, byteAt_eq s _ hs, if_neg (by omega), if_neg (by omega), if_pos (by omega), if_pos ⟨hc, h0⟩]
theorem Get.last (h : Get s a k u R) (hk : k < 10) (hs : a + k < s.size) (hc : s[a + k].toNat < 128) (h9 : k = 9 → s[a + k].toNat ≤ 1) (hz : ¬ (s[a + k].toNat = 0 ∧ 0 < k)) :
    R = (unfZ (u + s[a + k].toNat % 128 * 2 ^ (7 * k)), (a : Int) + k + 1, 0) := by
  rw [← h.all, show 10 - k = (9 - k) + 1 by omega, getF, byteAt_eq s _ hs, if_neg (by omega), if_neg (by omega), if_pos hc, if_neg hz]
end

set_option maxRecDepth 100000 in
set_option maxHeartbeats 4000000 in
theorem spec_get (s : ByteArray) (a : Int) (w : World) (hs : s.size ≤ maxLen) (h0 : -9223372036854775808 ≤ a) (h1 : a ≤ 9223372036854775807) :
    Calls Tryd.prog 33 #[.string s, .int .i64 a] w fun e w' => e = .returned (numV (getB s a)) ∧ Below w.heap.size w w' := by
  unfold maxLen at hs
  by_cases hsz : s.size ≤ 20000
  · have b1 : decide (20000 < (s.size : Int)) = false := by simp; omega
    by_cases hneg : a < 0
    · go_enter Tryd.func33, Tryd.ntmps33
      go_wp2
      refine bodyPost_ret (v := numV (getB s a)) ?_ rfl ⟨rfl, (Below.refl _ _).alloc (Nat.le_refl _) _⟩
      simp [results, Tryd.results33, go_sem]
      simp [getB, numV, hsz, hneg]
    · obtain ⟨A, rfl⟩ : ∃ A : Nat, a = A := ⟨a.toNat, by omega⟩
      have hR : getB s A = getF s A 10 0 0 := getB_nat s A hsz
      obtain ⟨R, hRR⟩ : ∃ R, R = getF s A 10 0 0 := ⟨_, rfl⟩
      rw [hR, ← hRR]
      have st : Get s A 0 0 R := ⟨by omega, fun _ => by simp, hRR.symm⟩
      clear hR hRR
      go_enter Tryd.func33, Tryd.ntmps33
      go_wp2
      go_loop [5, 6] (fun x i => ∃ k u : Nat, i = .int .i64 k ∧ x = .int .u64 u ∧ k ≤ 10 ∧ Hid (Get s A k u R)) (fun _ i => 10 - (intOf i).toNat)
      case atStart => exact ⟨0, 0, rfl, rfl, by omega, st⟩
      case round =>
        obtain ⟨k, u, rfl, rfl, hk, H⟩ := hrel
        clear st
        by_cases hk9 : k < 10
        · by_cases hin : A + k < s.size
          · have hbl := byte_lt s[A + k]
            by_cases hten : k = 9 ∧ 1 < s[A + k].toNat
            · have b3 : ((k : Int) == 9) = true := beq_iff_eq.2 (by omega)
              have b4 : decide (1 < (s[A + k].toNat : Int)) = true := by simp; omega
              have HR : Hid (R = (0, 0, 3)) := H.out.tenth hten.1 hin hten.2
              clear hten
              go_wp2
              refine bodyPost_ret (v := numV R) ?_ rfl ⟨rfl, (Below.refl _ _).alloc (Nat.le_refl _) _⟩
              simp [results, Tryd.results33, go_sem]
              simp [HR.out, numV]
            · have hle : k = 9 → s[A + k].toNat ≤ 1 := by omega
              have hbn : s[A + k].toNat < 256 := by omega
              have e1 := more_wrap u s[A + k].toNat k (by omega) (H.out.low (by omega)) hle
              have hU := (more_fits u s[A + k].toNat k (by omega) (H.out.low (by omega)) hle).1
              obtain ⟨U, hUU⟩ : ∃ U, U = u + s[A + k].toNat % 128 * 2 ^ (7 * k) := ⟨_, rfl⟩
              rw [← hUU] at e1 hU
              have HU : Hid (U = u + s[A + k].toNat % 128 * 2 ^ (7 * k)) := hUU
              clear hUU
              by_cases hc : 128 ≤ s[A + k].toNat
              · have hk8 : k < 9 := by omega
                have b3 : ((k : Int) == 9) = false := beq_eq_false_iff_ne.2 (by omega)
                have HG : Hid (Get s A (k + 1) U R) := by rw [HU.out]; exact H.out.more hk8 hin hc
                clear hten hle
                go_wp2
                go_round
                case rel => exact ⟨k + 1, U, by go_num, rfl, by omega, HG⟩
                case measure => simp [intOf]; omega
              · obtain ⟨q9, b3, b4⟩ : ∃ q : Bool, ((k : Int) == 9) = q ∧ (q = true → decide (1 < (s[A + k].toNat : Int)) = false) := ⟨_, rfl, fun h => by have := beq_iff_eq.1 h; have := hle (by omega); simp; omega⟩
                by_cases hz : s[A + k].toNat = 0 ∧ 0 < k
                · have HR : Hid (R = (0, 0, 3)) := H.out.nought hk9 hz.2 hin hz.1
                  have b5 : ((s[A + k].toNat : Int) == 0) = true := beq_iff_eq.2 (by omega)
                  have b6 : decide (0 < (k : Int)) = true := by simp; omega
                  have hc' : (s[A + k].toNat : Int) < 128 := by omega
                  have hk0 : 0 < k := hz.2
                  clear hz hten hle hc
                  cases q9 <;> simp only [forall_const, reduceCtorEq, false_implies] at b4
                  all_goals go_wp2
                  all_goals refine bodyPost_ret (v := numV R) ?_ rfl ⟨rfl, (Below.refl _ _).alloc (Nat.le_refl _) _⟩
                  all_goals simp [results, Tryd.results33, go_sem]
                  all_goals simp [HR.out, numV]
                · have HR : Hid (R = (unfZ U, (A : Int) + k + 1, 0)) := by rw [HU.out]; exact H.out.last hk9 hin (by omega) hle hz
                  have hc' : (s[A + k].toNat : Int) < 128 := by omega
                  obtain ⟨q0, b5, b6⟩ : ∃ q : Bool, ((s[A + k].toNat : Int) == 0) = q ∧ (q = true → k = 0) := ⟨_, rfl, fun h => by have := beq_iff_eq.1 h; omega⟩
                  obtain ⟨q2, b7⟩ : ∃ q : Bool, ((U : Int) % 2 == 1) = q := ⟨_, rfl⟩
                  clear hz hten hle hc
                  have hun := unfZ_or U
                  rw [b7] at hun
                  have HN : Hid (unfZ U = bif q2 then -((U : Int) / 2) - 1 else (U : Int) / 2) := hun
                  clear hun
                  cases q0
                  · clear b6
                    cases q9 <;> simp only [forall_const, reduceCtorEq, false_implies] at b4
                    all_goals cases q2
                    all_goals go_wp2
                    all_goals refine bodyPost_ret (v := numV R) ?_ rfl ⟨rfl, (Below.refl _ _).alloc (Nat.le_refl _) _⟩
                    all_goals simp [results, Tryd.results33, go_sem]
                    all_goals simp [HR.out, HN.out, numV]
                  · have hk0 : ¬ 0 < k := by have := b6 rfl; omega
                    clear b6
                    cases q9 <;> simp only [forall_const, reduceCtorEq, false_implies] at b4
                    all_goals cases q2
                    all_goals go_wp2
                    all_goals refine bodyPost_ret (v := numV R) ?_ rfl ⟨rfl, (Below.refl _ _).alloc (Nat.le_refl _) _⟩
                    all_goals simp [results, Tryd.results33, go_sem]
                    all_goals simp [HR.out, HN.out, numV]
          · have HR : Hid (R = (0, 0, 4)) := H.out.short hk9 (by omega)
            go_wp2
            refine bodyPost_ret (v := numV R) ?_ rfl ⟨rfl, (Below.refl _ _).alloc (Nat.le_refl _) _⟩
            simp [results, Tryd.results33, go_sem]
            simp [HR.out, numV]
        · have HR : Hid (R = (0, 0, 3)) := H.out.full hk9
          go_wp2
          refine bodyPost_ret (v := numV R) ?_ rfl ⟨rfl, (Below.refl _ _).alloc (Nat.le_refl _) _⟩
          simp [results, Tryd.results33, go_sem]
          simp [HR.out, numV]
  · have b1 : decide (20000 < (s.size : Int)) = true := by simp; omega
    go_enter Tryd.func33, Tryd.ntmps33
    go_wp2
    refine bodyPost_ret (v := numV (getB s a)) ?_ rfl ⟨rfl, (Below.refl _ _).alloc (Nat.le_refl _) _⟩
    simp [results, Tryd.results33, go_sem]
    simp [getB, numV, hsz]

end Go.Proofs.YtdbahildcecgbaaDoor.Draw
