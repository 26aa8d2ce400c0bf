/- Plain facts on numerals: digits padded with noughts, the texts of money and rates, and the value of a text's digits. Nothing of the program is in it. -/
import Derived.Lib.ItoaNum
import Derived.Lib.ItoaMem
namespace Go.Proofs.YtgbkpifkmkjbaaaDoor
open Go.Lib (decDigits)

def padN (k : Nat) (l : List UInt8) : List UInt8 := List.replicate (k - l.length) 48 ++ l
def digs : Nat → Nat → List UInt8
  | 0, _ => []
  | k + 1, n => digs k (n / 10) ++ [UInt8.ofNat (48 + n % 10)]
theorem dec_small (n : Nat) (h : n < 10) : decDigits n = [UInt8.ofNat (48 + n)] := by rw [decDigits, dif_pos h]
theorem dec_big (n : Nat) (h : ¬ n < 10) : decDigits n = decDigits (n / 10) ++ [UInt8.ofNat (48 + n % 10)] := by rw [decDigits, dif_neg h]
theorem dec_pos (n : Nat) : 1 ≤ (decDigits n).length := by
  by_cases h : n < 10
  · rw [dec_small n h]; simp
  · rw [dec_big n h]; simp
theorem dec_len : ∀ (k n : Nat), n < 10 ^ (k + 1) → (decDigits n).length ≤ k + 1
  | 0, n, h => by rw [dec_small n (by simpa using h)]; simp
  | k + 1, n, h => by
    by_cases h' : n < 10
    · rw [dec_small n h']; simp
    · rw [dec_big n h', List.length_append, List.length_singleton]
      have := dec_len k (n / 10) (by rw [Nat.pow_succ] at h; omega)
      omega
theorem digs_len : ∀ (k n : Nat), (digs k n).length = k
  | 0, _ => rfl
  | k + 1, n => by rw [digs, List.length_append, digs_len k]; rfl
theorem padN_snoc (k : Nat) (l : List UInt8) (d : UInt8) : padN (k + 1) (l ++ [d]) = padN k l ++ [d] := by
  unfold padN
  rw [List.length_append, List.length_singleton, Nat.add_sub_add_right, List.append_assoc]
theorem padN_zero (k : Nat) : padN (k + 1) [48] = padN (k + 1) [] := by
  unfold padN
  simp [List.replicate_succ']
theorem padN_done (k : Nat) (l : List UInt8) (h : k ≤ l.length) : padN k l = l := by
  unfold padN
  rw [Nat.sub_eq_zero_of_le h]; rfl
theorem dec_zero : decDigits 0 = [48] := by rw [dec_small 0 (by omega)]; rfl

/-- A numeral with noughts ahead, so that more than p digits stand there: the whole part and p digits. -/
theorem pad_dec : ∀ (p n : Nat), padN (p + 1) (decDigits n) = decDigits (n / 10 ^ p) ++ digs p n
  | 0, n => by rw [padN_done _ _ (dec_pos n)]; simp [digs]
  | p + 1, n => by
    have e : n / 10 ^ (p + 1) = n / 10 / 10 ^ p := by rw [Nat.pow_succ, Nat.mul_comm, Nat.div_div_eq_div_mul]
    have ih := pad_dec p (n / 10)
    rw [digs, ← List.append_assoc, e, ← ih]
    by_cases h : n < 10
    · have z : n / 10 = 0 := by omega
      rw [z, dec_zero, padN_zero, ← padN_snoc, dec_small n h, show n % 10 = n by omega]
      rfl
    · rw [dec_big n h, padN_snoc]
theorem pad_low : ∀ (p n : Nat), n < 10 ^ (p + 1) → padN (p + 1) (decDigits n) = digs (p + 1) n
  | 0, n, h => by
    rw [padN_done _ _ (dec_pos n), dec_small n (by simpa using h), digs, digs, show n % 10 = n by simp at h; omega]
    rfl
  | p + 1, n, h => by
    have ih := pad_low p (n / 10) (by rw [Nat.pow_succ] at h; omega)
    rw [digs, ← ih]
    by_cases h' : n < 10
    · have z : n / 10 = 0 := by omega
      rw [z, dec_zero, padN_zero, ← padN_snoc, dec_small n h', show n % 10 = n by omega]
      rfl
    · rw [dec_big n h', padN_snoc]
theorem digs2_mod (n : Nat) : digs 2 (n % 100) = digs 2 n := by
  simp only [digs]
  rw [show n % 100 / 10 % 10 = n / 10 % 10 by omega, show n % 100 % 10 = n % 10 by omega]
theorem digs4_mod (n : Nat) : digs 4 (n % 10000) = digs 4 n := by
  simp only [digs]
  rw [show n % 10000 / 10 / 10 / 10 % 10 = n / 10 / 10 / 10 % 10 by omega, show n % 10000 / 10 / 10 % 10 = n / 10 / 10 % 10 by omega, show n % 10000 / 10 % 10 = n / 10 % 10 by omega, show n % 10000 % 10 = n % 10 by omega]

/-- A number from 0 on with p of its digits behind a point. -/
def pointT (p n : Nat) : List UInt8 := decDigits (n / 10 ^ p) ++ 46 :: digs p n
theorem point_two (n : Nat) : decDigits (n / 100) ++ 46 :: padN 2 (decDigits (n % 100)) = pointT 2 n := by
  rw [pad_low 1 (n % 100) (by simp; omega), digs2_mod]; rfl
theorem point_four (n : Nat) : decDigits (n / 10000) ++ 46 :: padN 4 (decDigits (n % 10000)) = pointT 4 n := by
  rw [pad_low 3 (n % 10000) (by simp; omega), digs4_mod]; rfl
/-- The padded numeral, cut ahead of its last p digits. -/
theorem point_cut (p n : Nat) (l : List UInt8) (h : l = padN (p + 1) (decDigits n)) : p < l.length ∧ l.take (l.length - p) ++ 46 :: l.drop (l.length - p) = pointT p n := by
  rw [pad_dec] at h
  have hl : l.length = (decDigits (n / 10 ^ p)).length + p := by rw [h, List.length_append, digs_len]
  have hp := dec_pos (n / 10 ^ p)
  refine ⟨by omega, ?_⟩
  rw [hl, Nat.add_sub_cancel, h, List.take_left' rfl, List.drop_left' rfl]
  rfl
theorem pointT_len (p n k : Nat) (h : n / 10 ^ p < 10 ^ (k + 1)) : (pointT p n).length ≤ k + 1 + 1 + p := by
  have := dec_len k (n / 10 ^ p) h
  unfold pointT
  rw [List.length_append, List.length_cons, digs_len]
  omega
theorem pointT_ne (p n : Nat) : pointT p n ≠ [] := by unfold pointT; simp

def moneyT (n : Int) : List UInt8 := if -1000000000000 ≤ n ∧ n ≤ 1000000000000 then (if n < 0 then 45 :: pointT 2 n.natAbs else pointT 2 n.natAbs) else []
def rateT (n : Int) : List UInt8 := if 0 ≤ n ∧ n ≤ 1000000 then pointT 4 n.natAbs ++ [37] else []
theorem moneyT_len (n : Int) : (moneyT n).length ≤ 15 := by
  unfold moneyT
  split
  · rename_i h
    have := pointT_len 2 n.natAbs 10 (by simp; omega)
    split
    · rw [List.length_cons]; omega
    · omega
  · simp
theorem rateT_len (n : Int) : (rateT n).length ≤ 9 := by
  unfold rateT
  split
  · rename_i h
    have := pointT_len 4 n.natAbs 2 (by simp; omega)
    rw [List.length_append, List.length_singleton]; omega
  · simp
theorem moneyT_ne (n : Int) (h : -1000000000000 ≤ n ∧ n ≤ 1000000000000) : moneyT n ≠ [] := by
  unfold moneyT
  rw [if_pos h]
  split
  · simp
  · exact pointT_ne _ _
theorem rateT_ne (n : Int) (h : 0 ≤ n ∧ n ≤ 1000000) : rateT n ≠ [] := by
  unfold rateT
  rw [if_pos h]
  simp

/- The value of a text's digits, whatever stands between them. -/
def isD (c : UInt8) : Bool := decide (48 ≤ c.toNat) && decide (c.toNat ≤ 57)
def dstep (acc : Nat) (c : UInt8) : Nat := if isD c then 10 * acc + (c.toNat - 48) else acc
def dval (l : List UInt8) : Nat := l.foldl dstep 0
def dcount (l : List UInt8) : Nat := (l.filter isD).length
theorem dval_snoc (l : List UInt8) (c : UInt8) : dval (l ++ [c]) = dstep (dval l) c := by simp [dval]
theorem dcount_snoc (l : List UInt8) (c : UInt8) : dcount (l ++ [c]) = dcount l + if isD c then 1 else 0 := by
  unfold dcount
  rw [List.filter_append, List.length_append]
  cases h : isD c <;> simp [h]
theorem dcount_le (l : List UInt8) : dcount l ≤ l.length := List.length_filter_le _ _
theorem dstep_yes (acc : Nat) (c : UInt8) (h : isD c = true) : dstep acc c = 10 * acc + (c.toNat - 48) := by simp [dstep, h]
theorem dstep_no (acc : Nat) (c : UInt8) (h : isD c = false) : dstep acc c = acc := by simp [dstep, h]
theorem dstep_ge (acc : Nat) (c : UInt8) : acc ≤ dstep acc c := by
  unfold dstep; split <;> omega
theorem fold_ge : ∀ (l : List UInt8) (acc : Nat), acc ≤ l.foldl dstep acc
  | [], _ => Nat.le_refl _
  | c :: l, acc => by rw [List.foldl_cons]; exact Nat.le_trans (dstep_ge acc c) (fold_ge l _)
theorem dval_take (l : List UInt8) (k : Nat) : dval (l.take k) ≤ dval l := by
  have : dval l = (l.drop k).foldl dstep (dval (l.take k)) := by
    unfold dval
    rw [← List.foldl_append, List.take_append_drop]
  rw [this]
  exact fold_ge _ _
theorem dval_lt : ∀ (l : List UInt8) (acc k : Nat), acc < 10 ^ k → l.foldl dstep acc < 10 ^ (k + dcount l)
  | [], acc, k, h => by simpa [dcount] using h
  | c :: l, acc, k, h => by
    rw [List.foldl_cons]
    cases hc : isD c
    · rw [dstep_no _ _ hc, show dcount (c :: l) = dcount l by simp [dcount, hc]]
      exact dval_lt l acc k h
    · rw [dstep_yes _ _ hc, show dcount (c :: l) = dcount l + 1 by simp [dcount, hc], show k + (dcount l + 1) = (k + 1) + dcount l by omega]
      refine dval_lt l _ _ ?_
      rw [Nat.pow_succ]
      simp [isD] at hc
      omega
theorem dval_bd (l : List UInt8) : dval l < 10 ^ dcount l := by
  have := dval_lt l 0 0 (by simp)
  simpa [dval] using this
theorem digit_toNat (d : Nat) (h : d < 10) : (UInt8.ofNat (48 + d)).toNat = 48 + d := UInt8.toNat_ofNat_of_lt' (show 48 + d < 256 by omega)
theorem digit_isD (d : Nat) (h : d < 10) : isD (UInt8.ofNat (48 + d)) = true := by
  unfold isD; rw [digit_toNat d h]; simp; omega
theorem dstep_digit (acc d : Nat) (h : d < 10) : dstep acc (UInt8.ofNat (48 + d)) = 10 * acc + d := by
  rw [dstep_yes _ _ (digit_isD d h), digit_toNat d h]; omega
theorem dval_dec : ∀ (k n : Nat), n < 10 ^ (k + 1) → dval (decDigits n) = n
  | 0, n, h => by
    have h : n < 10 := by simpa using h
    rw [dec_small n h]
    show dstep 0 _ = n
    rw [dstep_digit 0 n h]; omega
  | k + 1, n, h => by
    by_cases h' : n < 10
    · rw [dec_small n h']
      show dstep 0 _ = n
      rw [dstep_digit 0 n h']; omega
    · rw [dec_big n h', dval_snoc, dval_dec k (n / 10) (by rw [Nat.pow_succ] at h; omega), dstep_digit _ _ (by omega)]
      omega
theorem fold_digs2 (acc n : Nat) : (digs 2 n).foldl dstep acc = 100 * acc + n % 100 := by
  show dstep (dstep acc (UInt8.ofNat (48 + n / 10 % 10))) (UInt8.ofNat (48 + n % 10)) = _
  rw [dstep_digit _ _ (by omega), dstep_digit _ _ (by omega)]; omega
theorem fold_digs4 (acc n : Nat) : (digs 4 n).foldl dstep acc = 10000 * acc + n % 10000 := by
  show dstep (dstep (dstep (dstep acc (UInt8.ofNat (48 + n / 10 / 10 / 10 % 10))) (UInt8.ofNat (48 + n / 10 / 10 % 10))) (UInt8.ofNat (48 + n / 10 % 10))) (UInt8.ofNat (48 + n % 10)) = _
  rw [dstep_digit _ _ (by omega), dstep_digit _ _ (by omega), dstep_digit _ _ (by omega), dstep_digit _ _ (by omega)]; omega
theorem dval_point2 (n : Nat) (h : n < 100000000000000000) : dval (pointT 2 n) = n := by
  unfold pointT dval
  rw [List.foldl_append, List.foldl_cons]
  have e : List.foldl dstep 0 (decDigits (n / 10 ^ 2)) = n / 100 := dval_dec 16 (n / 10 ^ 2) (by simp; omega)
  rw [e, dstep_no _ _ (by decide), fold_digs2]; omega
theorem dval_point4 (n : Nat) (h : n < 100000000000000000) : dval (pointT 4 n) = n := by
  unfold pointT dval
  rw [List.foldl_append, List.foldl_cons]
  have e : List.foldl dstep 0 (decDigits (n / 10 ^ 4)) = n / 10000 := dval_dec 16 (n / 10 ^ 4) (by simp; omega)
  rw [e, dstep_no _ _ (by decide), fold_digs4]; omega
theorem dec_head (n : Nat) : ∀ c, (decDigits n).head? = some c → c ≠ 45 := by
  intro c hc
  induction n using Nat.strongRecOn with
  | _ n ih =>
    by_cases h : n < 10
    · rw [dec_small n h] at hc
      have hc' : UInt8.ofNat (48 + n) = c := Option.some.inj hc
      subst hc'
      intro e
      have := congrArg UInt8.toNat e
      rw [digit_toNat n h] at this
      have h45 : UInt8.toNat 45 = 45 := rfl
      omega
    · rw [dec_big n h] at hc
      refine ih (n / 10) (by omega) ?_
      have hp := dec_pos (n / 10)
      cases hd : decDigits (n / 10) with
      | nil => rw [hd] at hp; simp at hp
      | cons x r => rw [hd] at hc; simpa using hc
theorem point_head (p n : Nat) : (pointT p n).head? ≠ some 45 := by
  unfold pointT
  intro h
  have hp := dec_pos (n / 10 ^ p)
  cases hd : decDigits (n / 10 ^ p) with
  | nil => rw [hd] at hp; simp at hp
  | cons x r =>
    rw [hd] at h
    exact dec_head (n / 10 ^ p) x (by rw [hd]; rfl) (by simpa using h)

/-- What reading a text as money comes to. -/
def signD (l : List UInt8) : Int := if l.head? = some 45 then -(dval l : Int) else dval l
def readM (l : List UInt8) : Int × Int := if 20000 < l.length then (0, 2) else if moneyT (signD l) = l ∧ l ≠ [] then (signD l, 0) else (0, 3)
def readR (l : List UInt8) : Int × Int := if 20000 < l.length then (0, 2) else if rateT (dval l) = l ∧ l ≠ [] then ((dval l : Int), 0) else (0, 3)
theorem sign_money (n : Int) (h : -1000000000000 ≤ n ∧ n ≤ 1000000000000) : signD (moneyT n) = n := by
  unfold moneyT signD
  rw [if_pos h]
  by_cases hn : n < 0
  · rw [if_pos hn, if_pos List.head?_cons]
    have : dval (45 :: pointT 2 n.natAbs) = n.natAbs := by
      show (pointT 2 n.natAbs).foldl dstep (dstep 0 45) = _
      rw [dstep_no _ _ (by decide)]
      exact dval_point2 _ (by omega)
    rw [this]; omega
  · rw [if_neg hn, if_neg (point_head 2 _), dval_point2 _ (by omega)]; omega
theorem readM_money (n : Int) (h : -1000000000000 ≤ n ∧ n ≤ 1000000000000) : readM (moneyT n) = (n, 0) := by
  have hl := moneyT_len n
  unfold readM
  rw [if_neg (by omega), sign_money n h, if_pos ⟨rfl, moneyT_ne n h⟩]
theorem val_rate (n : Int) (h : 0 ≤ n ∧ n ≤ 1000000) : (dval (rateT n) : Int) = n := by
  unfold rateT
  rw [if_pos h, dval_snoc, dstep_no _ _ (by decide), dval_point4 _ (by omega)]; omega
theorem readR_rate (n : Int) (h : 0 ≤ n ∧ n ≤ 1000000) : readR (rateT n) = (n, 0) := by
  have hl := rateT_len n
  unfold readR
  rw [if_neg (by omega), val_rate n h, if_pos ⟨rfl, rateT_ne n h⟩]
theorem readM_text (l : List UInt8) (h : (readM l).2 = 0) : moneyT (readM l).1 = l := by
  unfold readM at h ⊢
  split at h
  · simp at h
  · rename_i h1
    rw [if_neg h1]
    split at h
    · rename_i h2; rw [if_pos h2]; exact h2.1
    · simp at h
theorem readR_text (l : List UInt8) (h : (readR l).2 = 0) : rateT (readR l).1 = l := by
  unfold readR at h ⊢
  split at h
  · simp at h
  · rename_i h1
    rw [if_neg h1]
    split at h
    · rename_i h2; rw [if_pos h2]; exact h2.1
    · simp at h
end Go.Proofs.YtgbkpifkmkjbaaaDoor
