/- Reading texts as money and rates (MoneyRead, RateRead, of the program and of its model): what each call does. -/
import Derived.Test.YtgbkpifkmkjbaabDoorReadD
namespace Go.Proofs.YtgbkpifkmkjbaabDoor
open Go.RowKit

theorem readM_zero (l : List UInt8) : (readM l).2 ≠ 0 → (readM l).1 = 0 := by
  unfold readM
  split
  · simp
  · split <;> simp
theorem readR_zero (l : List UInt8) : (readR l).2 ≠ 0 → (readR l).1 = 0 := by
  unfold readR
  split
  · simp
  · split <;> simp
theorem readM_size (l : List UInt8) (h : 20000 < l.length) : readM l = (0, 2) := by unfold readM; rw [if_pos h]
theorem readR_size (l : List UInt8) (h : 20000 < l.length) : readR l = (0, 2) := by unfold readR; rw [if_pos h]
theorem readM_ok (l : List UInt8) (h : ¬ 20000 < l.length) (h1 : moneyT (signD l) = l) (h2 : l ≠ []) : readM l = (signD l, 0) := by unfold readM; rw [if_neg h, if_pos ⟨h1, h2⟩]
theorem readR_ok (l : List UInt8) (h : ¬ 20000 < l.length) (h1 : rateT (dval l) = l) (h2 : l ≠ []) : readR l = ((dval l : Int), 0) := by unfold readR; rw [if_neg h, if_pos ⟨h1, h2⟩]
theorem readM_bad (l : List UInt8) (h : ¬ 20000 < l.length) (h1 : moneyT (signD l) ≠ l ∨ l = []) : readM l = (0, 3) := by
  unfold readM
  rw [if_neg h, if_neg]
  rintro ⟨a, b⟩
  rcases h1 with h1 | h1
  · exact h1 a
  · exact b h1
theorem readR_bad (l : List UInt8) (h : ¬ 20000 < l.length) (h1 : rateT (dval l) ≠ l ∨ l = []) : readR l = (0, 3) := by
  unfold readR
  rw [if_neg h, if_neg]
  rintro ⟨a, b⟩
  rcases h1 with h1 | h1
  · exact h1 a
  · exact b h1
theorem signD_nil : signD [] = 0 := rfl
theorem moneyT_big (z : Int) (h : z < -1000000000000 ∨ 1000000000000 < z) : moneyT z = [] := by unfold moneyT; rw [if_neg (by omega)]
theorem rateT_big (z : Int) (h : 1000000 < z) : rateT z = [] := by unfold rateT; rw [if_neg (by omega)]
theorem readM_many (l : List UInt8) (h : ¬ 20000 < l.length) (hc : 17 < dcount l) : readM l = (0, 3) := by
  refine readM_bad l h (Or.inl fun e => ?_)
  have h1 := moneyT_len (signD l)
  rw [e] at h1
  have := dcount_le l
  omega
theorem readR_many (l : List UInt8) (h : ¬ 20000 < l.length) (hc : 17 < dcount l) : readR l = (0, 3) := by
  refine readR_bad l h (Or.inl fun e => ?_)
  have h1 := rateT_len (dval l)
  rw [e] at h1
  have := dcount_le l
  omega
theorem readM_great (l : List UInt8) (h : ¬ 20000 < l.length) (hv : 1000000000000 < dval l) : readM l = (0, 3) := by
  refine readM_bad l h (Or.inl fun e => ?_)
  have h0 : moneyT (signD l) = [] := moneyT_big _ (by unfold signD; split <;> omega)
  rw [h0] at e
  rw [← e] at hv
  simp [dval] at hv
theorem readR_great (l : List UInt8) (h : ¬ 20000 < l.length) (hv : 1000000 < dval l) : readR l = (0, 3) := by
  refine readR_bad l h (Or.inl fun e => ?_)
  rw [rateT_big _ (by omega)] at e
  rw [← e] at hv
  simp [dval] at hv
theorem strB_eq (l : List UInt8) (s : ByteArray) : strB l = s ↔ l = bytesOf s := by
  constructor
  · intro h; rw [← h, bytesOf_strB]
  · intro h; rw [h, strB_bytesOf]
theorem head_at (s : ByteArray) (h : 0 < s.size) : (bytesOf s).head? = some s[0] := by
  unfold bytesOf
  rw [List.head?_eq_getElem?, List.getElem?_eq_getElem (by simpa using h)]
  rfl
theorem signD_yes (s : ByteArray) (h : 0 < s.size) (h45 : s[0].toNat = 45) : signD (bytesOf s) = -(dval (bytesOf s) : Int) := by
  unfold signD
  rw [head_at s h, if_pos]
  exact congrArg some (UInt8.toNat.inj h45)
theorem signD_no (s : ByteArray) (h : 0 < s.size) (h45 : s[0].toNat ≠ 45) : signD (bytesOf s) = (dval (bytesOf s) : Int) := by
  unfold signD
  rw [head_at s h, if_neg]
  intro e
  exact h45 (congrArg UInt8.toNat (Option.some.inj e))
theorem toList_of (s : ByteArray) : s.toList = bytesOf s := Lib.toList_data s
theorem neq_str {a b : ByteArray} (h : ¬ a = b) : (a.toList == b.toList) = false := by
  rw [beq_eq_false_iff_ne, toList_of, toList_of]
  intro e
  apply h
  rw [← strB_bytesOf a, ← strB_bytesOf b, e]
theorem neq_nil {a : ByteArray} (h : ¬ a = { data := #[] }) : (a.toList == []) = false := by
  rw [beq_eq_false_iff_ne, toList_of]
  intro e
  apply h
  rw [← strB_bytesOf a, e]; rfl
theorem empty_of {s : ByteArray} (h : s.size = 0) : s = { data := #[] } := by
  apply ByteArray.ext
  exact Array.eq_empty_of_size_eq_zero h
theorem bytes_ne {s : ByteArray} (h : 0 < s.size) : bytesOf s ≠ [] := by
  intro e
  have := bytesOf_len s
  rw [e] at this
  simp at this
  omega


end Go.Proofs.YtgbkpifkmkjbaabDoor
