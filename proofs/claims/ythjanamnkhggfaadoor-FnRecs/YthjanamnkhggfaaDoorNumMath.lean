/- Plain facts: a number is got back from its bytes; of bytes that end too early nothing is got. -/
import Derived.Test.YthjanamnkhggfaaDoorGet
namespace Go.Proofs.YthjanamnkhggfaaDoor.Draw
open Go.RowKit

theorem byteAt_list (s : ByteArray) (i : Nat) : byteAt s i = (s.data.toList.getD i 0).toNat := rfl

/-- The bytes l stand in s from place p on. -/
def StandAt (s : ByteArray) (p : Nat) (l : List UInt8) : Prop := ∀ j, j < l.length → byteAt s (p + j) = (l.getD j 0).toNat
theorem StandAt.head {s : ByteArray} {p : Nat} {b : UInt8} {l : List UInt8} (h : StandAt s p (b :: l)) : byteAt s p = b.toNat := by
  have := h 0 (by simp)
  simpa using this
theorem StandAt.tail {s : ByteArray} {p : Nat} {b : UInt8} {l : List UInt8} (h : StandAt s p (b :: l)) : StandAt s (p + 1) l := by
  intro j hj
  have := h (j + 1) (by simp; omega)
  rw [show p + 1 + j = p + (j + 1) by omega, this]
  simp
theorem ofNat_nat (u : Nat) (h : u < 256) : (UInt8.ofNat u).toNat = u := UInt8.toNat_ofNat_of_lt' (by simpa using h)

theorem get_enc (s : ByteArray) (a : Nat) : ∀ (f i u v : Nat), f + 1 + i = 10 → StandAt s (a + i) (encF (f + 1) v) → a + i + (encF (f + 1) v).length ≤ s.size → u + v * 2 ^ (7 * i) < 18446744073709551616 → (0 < i → 0 < v) → v < 128 ^ (f + 1) →
    getF s a (f + 1) i u = (unfZ (u + v * 2 ^ (7 * i)), (a : Int) + i + (encF (f + 1) v).length, 0)
  | f, i, u, v, hfi, hst, hsz, hlt, hpos, hv => by
    by_cases h128 : v < 128
    · rw [encF_small f v h128] at hst hsz ⊢
      have hb := hst.head
      rw [ofNat_nat v (by omega)] at hb
      simp at hsz
      have h9 : ¬ (i = 9 ∧ 1 < v) := by
        rintro ⟨rfl, h1⟩
        have : 2 * 2 ^ (7 * 9) ≤ v * 2 ^ (7 * 9) := Nat.mul_le_mul_right _ h1
        simp at this hlt
        omega
      have hm : v % 128 = v := Nat.mod_eq_of_lt h128
      have hz : ¬ (v = 0 ∧ 0 < i) := fun ⟨h1, h2⟩ => by have := hpos h2; omega
      rw [getF, hb, if_neg (by omega), if_neg h9, if_pos h128, if_neg hz, hm]
      simp
    · cases f with
      | zero => simp at hv; omega
      | succ g =>
        rw [encF_big _ v h128] at hst hsz ⊢
        have hb := hst.head
        rw [ofNat_nat _ (by omega)] at hb
        simp only [List.length_cons] at hsz ⊢
        have e7 : 2 ^ (7 * (i + 1)) = 2 ^ (7 * i) * 128 := by rw [Nat.mul_add, Nat.pow_add]
        have esum : u + v % 128 * 2 ^ (7 * i) + v / 128 * 2 ^ (7 * (i + 1)) = u + v * 2 ^ (7 * i) := by
          rw [e7]
          have hv' : v = 128 * (v / 128) + v % 128 := by omega
          generalize 2 ^ (7 * i) = p at *
          have : v * p = 128 * (v / 128) * p + v % 128 * p := by rw [← Nat.add_mul, ← hv']
          rw [this, Nat.mul_comm 128 (v / 128), Nat.mul_assoc, Nat.mul_comm 128 p]
          omega
        have hmod : (v % 128 + 128) % 128 = v % 128 := by omega
        rw [getF, hb, if_neg (by omega), if_neg (by omega), if_neg (by omega), hmod]
        have ih := get_enc s a g (i + 1) (u + v % 128 * 2 ^ (7 * i)) (v / 128) (by omega) (by rw [← Nat.add_assoc]; exact hst.tail) (by omega) (by rw [esum]; exact hlt) (by omega) (by rw [Nat.div_lt_iff_lt_mul (by omega)]; rw [Nat.pow_succ] at hv; exact hv)
        rw [ih, esum]
        simp
        omega

theorem get_cut (s : ByteArray) (a : Nat) : ∀ (f i u v : Nat), f + 1 + i = 10 → StandAt s (a + i) ((encF (f + 1) v).dropLast) → s.size + 1 = a + i + (encF (f + 1) v).length → v * 2 ^ (7 * i) < 18446744073709551616 → v < 128 ^ (f + 1) →
    getF s a (f + 1) i u = (0, 0, 4)
  | f, i, u, v, hfi, hst, hsz, hlt, hv => by
    by_cases h128 : v < 128
    · rw [encF_small f v h128] at hsz
      simp at hsz
      exact getF_short (by omega)
    · cases f with
      | zero => simp at hv; omega
      | succ g =>
        have hne : encF (g + 1) (v / 128) ≠ [] := by
          unfold encF
          split <;> simp
        have hl : 0 < (encF (g + 1) (v / 128)).length := List.length_pos_iff.2 hne
        rw [encF_big _ v h128] at hst hsz
        rw [List.dropLast_cons_of_ne_nil hne] at hst
        have hb := hst.head
        rw [ofNat_nat _ (by omega)] at hb
        simp only [List.length_cons] at hsz
        have e7 : 2 ^ (7 * (i + 1)) = 2 ^ (7 * i) * 128 := by rw [Nat.mul_add, Nat.pow_add]
        have hlt' : v / 128 * 2 ^ (7 * (i + 1)) < 18446744073709551616 := by
          rw [e7]
          have hp : 0 < 2 ^ (7 * i) := Nat.pow_pos (by omega)
          generalize 2 ^ (7 * i) = p at *
          have h1 : v / 128 * (p * 128) ≤ v * p := by
            rw [Nat.mul_comm p 128, ← Nat.mul_assoc]
            exact Nat.mul_le_mul_right _ (by omega)
          omega
        rw [getF, hb, if_neg (by omega), if_neg (by omega), if_neg (by omega)]
        exact get_cut s a g (i + 1) _ (v / 128) (by omega) (by rw [← Nat.add_assoc]; exact hst.tail) (by omega) hlt' (by rw [Nat.div_lt_iff_lt_mul (by omega)]; rw [Nat.pow_succ] at hv; exact hv)

theorem unf_fold (n : Int) : unfZ (foldZ n).toNat = n := by
  unfold unfZ foldZ
  split <;> split <;> omega
theorem fold_lt (n : Int) (h0 : -9223372036854775808 ≤ n) (h1 : n ≤ 9223372036854775807) : (foldZ n).toNat < 18446744073709551616 := by
  unfold foldZ
  split <;> omega
theorem encN_pos (n : Int) : 0 < (encN n).length := by
  unfold encN encF
  split <;> simp

/-- A number is got back from its bytes, wherever they stand. -/
theorem getB_enc (s : ByteArray) (a : Nat) (n : Int) (h0 : -9223372036854775808 ≤ n) (h1 : n ≤ 9223372036854775807) (hs : s.size ≤ 20000) (hst : StandAt s a (encN n)) (hsz : a + (encN n).length ≤ s.size) :
    getB s a = (n, (a : Int) + (encN n).length, 0) := by
  rw [getB_nat s a hs]
  have hl := fold_lt n h0 h1
  have := get_enc s a 9 0 0 (foldZ n).toNat (by omega) (by simpa [encN] using hst) (by simpa [encN] using hsz) (by simpa using hl) (by omega) (by simp; omega)
  rw [this]
  simp [unf_fold, encN]
/-- Of bytes that end too early nothing is got. -/
theorem getB_cut (s : ByteArray) (n : Int) (h0 : -9223372036854775808 ≤ n) (h1 : n ≤ 9223372036854775807) (hs : s.data.toList = (encN n).dropLast) : getB s 0 = (0, 0, 4) := by
  have hl := fold_lt n h0 h1
  have hlen := encF_len 10 (foldZ n).toNat
  have hp := encN_pos n
  have hsize : s.size = (encN n).length - 1 := by
    have := congrArg List.length hs
    rw [List.length_dropLast] at this
    rw [← this]
    simp only [Array.length_toList]
    rfl
  have hle : s.size ≤ 20000 := by rw [hsize]; unfold encN; omega
  have := getB_nat s 0 hle
  rw [show ((0 : Nat) : Int) = 0 from rfl] at this
  rw [this]
  refine get_cut s 0 9 0 0 (foldZ n).toNat (by omega) ?_ ?_ (by simpa using hl) (by simp; omega)
  · intro j _
    rw [byteAt_list, hs]
    simp [encN]
  · show s.size + 1 = 0 + 0 + (encN n).length
    omega
end Go.Proofs.YthjanamnkhggfaaDoor.Draw
