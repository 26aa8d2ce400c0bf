/- The two name tests (spec.NameRight, impl.NameRight) answer alike: what each call does. No condition. -/
import Derived.Test.YtdbahildcecgbaaDoorBase
namespace Go.Proofs.YtdbahildcecgbaaDoor.Draw
open Go.RowKit
set_option linter.unusedSimpArgs false

def okAt (s : ByteArray) (i : Nat) : Bool :=
  (decide (97 ≤ (s.data.toList.getD i 0).toNat) && decide ((s.data.toList.getD i 0).toNat ≤ 122)) ||
  (!decide (i = 0) && ((decide (48 ≤ (s.data.toList.getD i 0).toNat) && decide ((s.data.toList.getD i 0).toNat ≤ 57)) || decide ((s.data.toList.getD i 0).toNat = 95)))
def nameB (s : ByteArray) : Bool := decide (1 ≤ s.size) && decide (s.size ≤ 20) && (List.range s.size).all (okAt s)


/-- The tests on one byte, decided. -/
structure Tests (c : Int) (a z n m u : Bool) : Prop where
  a97 : decide (97 ≤ c) = a
  z122 : decide (c ≤ 122) = z
  n48 : decide (48 ≤ c) = n
  m57 : decide (c ≤ 57) = m
  u95 : (c == 95) = u
  v95 : (c != 95) = !u
theorem byte_ranges (b : UInt8) : (Tests b.toNat false true false true false ∧ (b.toNat : Int) < 48) ∨ (Tests b.toNat false true true true false ∧ 48 ≤ (b.toNat : Int) ∧ (b.toNat : Int) ≤ 57) ∨
    (Tests b.toNat false true true false false ∧ 58 ≤ (b.toNat : Int) ∧ (b.toNat : Int) ≤ 96 ∧ ¬ (b.toNat : Int) = 95) ∨ (Tests b.toNat false true true false true ∧ 95 ≤ (b.toNat : Int) ∧ (b.toNat : Int) ≤ 95) ∨
    (Tests b.toNat true true true false false ∧ 97 ≤ (b.toNat : Int) ∧ (b.toNat : Int) ≤ 122) ∨ (Tests b.toNat true false true false false ∧ 123 ≤ (b.toNat : Int)) := by
  have e (x y : Int) : decide (x ≤ y) = true ↔ x ≤ y := decide_eq_true_iff
  have e' (x y : Int) : decide (x ≤ y) = false ↔ ¬ x ≤ y := decide_eq_false_iff_not
  by_cases h1 : (b.toNat : Int) < 48
  · exact Or.inl ⟨⟨by simp; omega, by simp; omega, by simp; omega, by simp; omega, beq_eq_false_iff_ne.2 (by omega), by rw [Bool.not_false, bne_iff_ne]; omega⟩, h1⟩
  by_cases h2 : (b.toNat : Int) ≤ 57
  · exact Or.inr (Or.inl ⟨⟨by simp; omega, by simp; omega, by simp; omega, by simp; omega, beq_eq_false_iff_ne.2 (by omega), by rw [Bool.not_false, bne_iff_ne]; omega⟩, by omega, h2⟩)
  by_cases h3 : (b.toNat : Int) = 95
  · exact Or.inr (Or.inr (Or.inr (Or.inl ⟨⟨by simp; omega, by simp; omega, by simp; omega, by simp; omega, by simpa using h3, by rw [Bool.not_true, bne_eq_false_iff_eq]; exact h3⟩, by omega, by omega⟩)))
  by_cases h4 : (b.toNat : Int) ≤ 96
  · exact Or.inr (Or.inr (Or.inl ⟨⟨by simp; omega, by simp; omega, by simp; omega, by simp; omega, beq_eq_false_iff_ne.2 (by omega), by rw [Bool.not_false, bne_iff_ne]; omega⟩, by omega, h4, h3⟩))
  by_cases h5 : (b.toNat : Int) ≤ 122
  · exact Or.inr (Or.inr (Or.inr (Or.inr (Or.inl ⟨⟨by simp; omega, by simp; omega, by simp; omega, by simp; omega, beq_eq_false_iff_ne.2 (by omega), by rw [Bool.not_false, bne_iff_ne]; omega⟩, by omega, h5⟩))))
  · exact Or.inr (Or.inr (Or.inr (Or.inr (Or.inr ⟨⟨by simp; omega, by simp; omega, by simp; omega, by simp; omega, beq_eq_false_iff_ne.2 (by omega), by rw [Bool.not_false, bne_iff_ne]; omega⟩, by omega⟩))))


theorem nameB_at_false (s : ByteArray) (k : Nat) (hk : k < s.size) (h : okAt s k = false) : nameB s = false := by
  unfold nameB
  have : (List.range s.size).all (okAt s) = false := by
    rw [List.all_eq_false]
    exact ⟨k, by simpa using hk, by simp [h]⟩
  simp [this]
theorem nameB_true (s : ByteArray) (h1 : 1 ≤ s.size) (h2 : s.size ≤ 20) (h : ∀ j, j < s.size → okAt s j = true) : nameB s = true := by
  unfold nameB
  have : (List.range s.size).all (okAt s) = true := by
    rw [List.all_eq_true]
    intro x hx
    exact h x (by simpa using hx)
  simp [this, h1, h2]

theorem okAt_iff (s : ByteArray) (k : Nat) (h : k < s.size) : okAt s k = true ↔ (97 ≤ (s[k].toNat : Int) ∧ (s[k].toNat : Int) ≤ 122) ∨ (¬ k = 0 ∧ ((48 ≤ (s[k].toNat : Int) ∧ (s[k].toNat : Int) ≤ 57) ∨ (s[k].toNat : Int) = 95)) := by
  unfold okAt
  rw [getD_at s k h]
  simp
  omega
theorem okAt_no (s : ByteArray) (k : Nat) (h : k < s.size) (hn : ¬ ((97 ≤ (s[k].toNat : Int) ∧ (s[k].toNat : Int) ≤ 122) ∨ (¬ k = 0 ∧ ((48 ≤ (s[k].toNat : Int) ∧ (s[k].toNat : Int) ≤ 57) ∨ (s[k].toNat : Int) = 95)))) : okAt s k = false := by
  rw [← Bool.not_eq_true, okAt_iff s k h]; exact hn
theorem upto_succ (s : ByteArray) (k : Nat) (h : ∀ j, j < k → okAt s j = true) (hk : okAt s k = true) : ∀ j, j < k + 1 → okAt s j = true := by
  intro j hj
  by_cases e : j = k
  · rw [e]; exact hk
  · exact h j (by omega)


theorem nameB_big (s : ByteArray) (h : ¬ s.size ≤ 20) : nameB s = false := by simp [nameB, h]
theorem nameB_none (s : ByteArray) (h : ¬ 1 ≤ s.size) : nameB s = false := by simp [nameB, h]


def likeB (s : ByteArray) : Bool := decide (1 ≤ s.size) && (List.range s.size).all (okAt s)
theorem likeB_at_false (s : ByteArray) (k : Nat) (hk : k < s.size) (h : okAt s k = false) : likeB s = false := by
  unfold likeB
  have : (List.range s.size).all (okAt s) = false := by
    rw [List.all_eq_false]
    exact ⟨k, by simpa using hk, by simp [h]⟩
  simp [this]
theorem likeB_true (s : ByteArray) (h1 : 1 ≤ s.size) (h : ∀ j, j < s.size → okAt s j = true) : likeB s = true := by
  unfold likeB
  have : (List.range s.size).all (okAt s) = true := by
    rw [List.all_eq_true]
    intro x hx
    exact h x (by simpa using hx)
  simp [this, h1]
theorem likeB_none (s : ByteArray) (h : ¬ 1 ≤ s.size) : likeB s = false := by simp [likeB, h]
theorem nameB_like (s : ByteArray) (h2 : s.size ≤ 20) : nameB s = likeB s := by simp [nameB, likeB, h2]
theorem like_ne (s : ByteArray) (h1 : 1 ≤ s.size) : (s.toList == []) = false := by
  rw [beq_eq_false_iff_ne, ByteArray.toList_eq]
  intro h
  have h2 : s.data.toList.length = 0 := by rw [h]; rfl
  have h3 : s.data.size = s.size := rfl
  rw [Array.length_toList] at h2
  omega
theorem like_e (s : ByteArray) (h1 : ¬ 1 ≤ s.size) : (s.toList == []) = true := by
  rw [beq_iff_eq, ByteArray.toList_eq]
  have h3 : s.data.size = s.size := rfl
  exact List.eq_nil_of_length_eq_zero (by rw [Array.length_toList]; omega)




end Go.Proofs.YtdbahildcecgbaaDoor.Draw
