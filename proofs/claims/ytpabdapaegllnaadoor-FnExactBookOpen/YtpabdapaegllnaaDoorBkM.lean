/- The order of lines and of ids, what makes a book right: no program. -/
import Derived.Test.YtpabdapaegllnaaDoorBk1
import Derived.Lib.Bytealg
namespace Go.Proofs.YtpabdapaegllnaaDoor
open Go.RowKit
open Go.Proofs.YtpabdapaegllnaaDoor.Draw

theorem cmp_less : ∀ x y : List UInt8, Lib.compareBytes x y < 0 ↔ Op.bytesLess x y = true
  | [], [] => by simp [Lib.compareBytes, Op.bytesLess]
  | [], _ :: _ => by simp [Lib.compareBytes, Op.bytesLess]
  | _ :: _, [] => by simp [Lib.compareBytes, Op.bytesLess]
  | a :: x, b :: y => by
    rw [Lib.compareBytes, Op.bytesLess]
    by_cases h : a < b
    · simp [h]
    · by_cases h' : b < a
      · have hne : a ≠ b := fun e => by subst e; exact absurd h' (UInt8.lt_irrefl _)
        simp [h, h', hne]
      · have he : a = b := UInt8.le_antisymm (UInt8.not_lt.1 h') (UInt8.not_lt.1 h)
        subst he
        simp [h, cmp_less x y]
theorem cmp_zero : ∀ x y : List UInt8, Lib.compareBytes x y = 0 ↔ x = y
  | [], [] => by simp [Lib.compareBytes]
  | [], _ :: _ => by simp [Lib.compareBytes]
  | _ :: _, [] => by simp [Lib.compareBytes]
  | a :: x, b :: y => by
    rw [Lib.compareBytes]
    by_cases h : a < b
    · have hne : a ≠ b := fun e => by subst e; exact absurd h (UInt8.lt_irrefl _)
      simp [h, hne]
    · by_cases h' : b < a
      · have hne : a ≠ b := fun e => by subst e; exact absurd h' (UInt8.lt_irrefl _)
        simp [h, h', hne]
      · have he : a = b := UInt8.le_antisymm (UInt8.not_lt.1 h') (UInt8.not_lt.1 h)
        subst he
        simp [h, cmp_zero x y]
theorem cmp_range : ∀ x y : List UInt8, -1 ≤ Lib.compareBytes x y ∧ Lib.compareBytes x y ≤ 1
  | [], [] => by simp [Lib.compareBytes]
  | [], _ :: _ => by simp [Lib.compareBytes]
  | _ :: _, [] => by simp [Lib.compareBytes]
  | a :: x, b :: y => by
    rw [Lib.compareBytes]
    have := cmp_range x y
    split
    · omega
    · split <;> omega

def ltS (a b : ByteArray) : Bool := Op.bytesLess a.toList b.toList
def cmpS (a b : ByteArray) : Int := Lib.compareBytes a.data.toList b.data.toList
theorem cmpS_less (a b : ByteArray) : cmpS a b < 0 ↔ ltS a b = true := by
  rw [cmpS, ltS, cmp_less, Lib.toList_data, Lib.toList_data]
theorem cmpS_zero (a b : ByteArray) : cmpS a b = 0 ↔ (a.toList == b.toList) = true := by
  rw [cmpS, cmp_zero, Lib.toList_data, Lib.toList_data, beq_iff_eq]
theorem cmpS_range (a b : ByteArray) : -1 ≤ cmpS a b ∧ cmpS a b ≤ 1 := cmp_range _ _
/-- Lines by Account, then Slot. -/
def lessP (a s a' s' : ByteArray) : Bool := ltS a a' || ((a.toList == a'.toList) && ltS s s')
def cmpP (a s a' s' : ByteArray) : Int := if cmpS a a' ≠ 0 then cmpS a a' else cmpS s s'
theorem cmpP_neg (a s a' s' : ByteArray) : decide (0 ≤ cmpP a s a' s') = !lessP a s a' s' := by
  unfold cmpP lessP
  have h1 := cmpS_less a a'
  have h2 := cmpS_zero a a'
  have h3 := cmpS_less s s'
  by_cases h0 : cmpS a a' = 0
  · rw [if_neg (by simpa using h0)]
    have e1 : ltS a a' = false := by
      rw [← Bool.not_eq_true, ← h1]; omega
    rw [e1, h2.1 h0]
    by_cases h4 : cmpS s s' < 0
    · rw [h3.1 h4]; simp; omega
    · have e2 : ltS s s' = false := by rw [← Bool.not_eq_true, ← h3]; exact h4
      rw [e2]; simp; omega
  · rw [if_pos h0]
    have e2 : (a.toList == a'.toList) = false := by rw [← Bool.not_eq_true, ← h2]; exact h0
    rw [e2]
    by_cases h4 : cmpS a a' < 0
    · rw [h1.1 h4]; simp; omega
    · have e1 : ltS a a' = false := by rw [← Bool.not_eq_true, ← h1]; exact h4
      rw [e1]; simp; omega
theorem cmpP_range (a s a' s' : ByteArray) : -1 ≤ cmpP a s a' s' ∧ cmpP a s a' s' ≤ 1 := by
  unfold cmpP; split
  · exact cmpS_range _ _
  · exact cmpS_range _ _

def okLine (L : Nat → Ln) (i : Nat) : Bool := (nameB (L i).a && nameB (L i).s) && rightB (L i).m && (decide (i = 0) || lessP (L (i - 1)).a (L (i - 1)).s (L i).a (L i).s)
def okId (I : Nat → Tx) (i : Nat) : Bool := nameB (I i).t && (decide (i = 0) || ltS (I (i - 1)).t (I i).t)
def linesB (n : Nat) (L : Nat → Ln) : Bool := decide (n ≤ 60) && (List.range n).all (okLine L)
def idsB (m : Nat) (I : Nat → Tx) : Bool := decide (m ≤ 100) && (List.range m).all (okId I)
def sumL (L : Nat → Ln) : Nat → Int
  | 0 => 0
  | k + 1 => sumL L k + (L k).m
def bookB (n m : Nat) (L : Nat → Ln) (I : Nat → Tx) : Bool := linesB n L && idsB m I && (sumL L n == 0)
theorem all_no {p : Nat → Bool} {n k : Nat} (hk : k < n) (h : p k = false) : (List.range n).all p = false := by
  rw [List.all_eq_false]; exact ⟨k, by simpa using hk, by simp [h]⟩
theorem all_yes {p : Nat → Bool} {n : Nat} (h : ∀ j, j < n → p j = true) : (List.range n).all p = true := by
  rw [List.all_eq_true]; intro x hx; exact h x (by simpa using hx)
theorem linesB_no {n : Nat} {L : Nat → Ln} {k : Nat} (hk : k < n) (h : okLine L k = false) : linesB n L = false := by simp [linesB, all_no hk h]
theorem linesB_yes {n : Nat} {L : Nat → Ln} (hn : n ≤ 60) (h : ∀ j, j < n → okLine L j = true) : linesB n L = true := by simp [linesB, hn, all_yes h]
theorem linesB_iff (n : Nat) (L : Nat → Ln) : linesB n L = true ↔ n ≤ 60 ∧ ∀ j, j < n → okLine L j = true := by simp [linesB]
theorem idsB_no {n : Nat} {I : Nat → Tx} {k : Nat} (hk : k < n) (h : okId I k = false) : idsB n I = false := by simp [idsB, all_no hk h]
theorem idsB_yes {n : Nat} {I : Nat → Tx} (hn : n ≤ 100) (h : ∀ j, j < n → okId I j = true) : idsB n I = true := by simp [idsB, hn, all_yes h]
theorem idsB_iff (n : Nat) (I : Nat → Tx) : idsB n I = true ↔ n ≤ 100 ∧ ∀ j, j < n → okId I j = true := by simp [idsB]
theorem sumL_le {L : Nat → Ln} {n : Nat} (h : ∀ j, j < n → okLine L j = true) : ∀ k, k ≤ n → -(1000000000000 * (k : Int)) ≤ sumL L k ∧ sumL L k ≤ 1000000000000 * (k : Int)
  | 0, _ => by simp [sumL]
  | k + 1, hk => by
    have ih := sumL_le h k (by omega)
    have hj := h k (by omega)
    simp only [okLine, Bool.and_eq_true] at hj
    have hr := (rightB_iff _).1 hj.1.2
    simp only [sumL]
    omega
end Go.Proofs.YtpabdapaegllnaaDoor
