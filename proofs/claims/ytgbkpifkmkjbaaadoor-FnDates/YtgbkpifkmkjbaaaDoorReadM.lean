/- Reading texts as money and rates (MoneyRead, RateRead, of the program and of its model): what each call does. -/
import Derived.Test.YtgbkpifkmkjbaaaDoorReadD
namespace Go.Proofs.YtgbkpifkmkjbaaaDoor
open Go.RowKit

theorem readM_zero (l : List UInt8) : (readM l).2 ≠ 0 → (readM l).1 = 0 := by
  unfold readM
  split
  · simp
  · split <;> simp
theorem readR_zero (l : List UInt8) : (readR l).2 ≠ 0 → (readR l).1 = 0 := by
  unfold readR
  split
  · simp
  · split <;> simp
theorem readM_size (l : List UInt8) (h : 20000 < l.length) : readM l = (0, 2) := by unfold readM; rw [if_pos h]
theorem readR_size (l : List UInt8) (h : 20000 < l.length) : readR l = (0, 2) := by unfold readR; rw [if_pos h]
theorem readM_ok (l : List UInt8) (h : ¬ 20000 < l.length) (h1 : moneyT (signD l) = l) (h2 : l ≠ []) : readM l = (signD l, 0) := by unfold readM; rw [if_neg h, if_pos ⟨h1, h2⟩]
theorem readR_ok (l : List UInt8) (h : ¬ 20000 < l.length) (h1 : rateT (dval l) = l) (h2 : l ≠ []) : readR l = ((dval l : Int), 0) := by unfold readR; rw [if_neg h, if_pos ⟨h1, h2⟩]
theorem readM_bad (l : List UInt8) (h : ¬ 20000 < l.length) (h1 : moneyT (signD l) ≠ l ∨ l = []) : readM l = (0, 3) := by
  unfold readM
  rw [if_neg h, if_neg]
  rintro ⟨a, b⟩
  rcases h1 with h1 | h1
  · exact h1 a
  · exact b h1
theorem readR_bad (l : List UInt8) (h : ¬ 20000 < l.length) (h1 : rateT (dval l) ≠ l ∨ l = []) : readR l = (0, 3) := by
  unfold readR
  rw [if_neg h, if_neg]
  rintro ⟨a, b⟩
  rcases h1 with h1 | h1
  · exact h1 a
  · exact b h1
theorem signD_nil : signD [] = 0 := rfl
theorem moneyT_big (z : Int) (h : z < -1000000000000 ∨ 1000000000000 < z) : moneyT z = [] := by unfold moneyT; rw [if_neg (by omega)]
theorem rateT_big (z : Int) (h : 1000000 < z) : rateT z = [] := by unfold rateT; rw [if_neg (by omega)]
theorem readM_many (l : List UInt8) (h : ¬ 20000 < l.length) (hc : 17 < dcount l) : readM l = (0, 3) := by
  refine readM_bad l h (Or.inl fun e => ?_)
  have h1 := moneyT_len (signD l)
  rw [e] at h1
  have := dcount_le l
  omega
theorem readR_many (l : List UInt8) (h : ¬ 20000 < l.length) (hc : 17 < dcount l) : readR l = (0, 3) := by
  refine readR_bad l h (Or.inl fun e => ?_)
  have h1 := rateT_len (dval l)
  rw [e] at h1
  have := dcount_le l
  omega
theorem readM_great (l : List UInt8) (h : ¬ 20000 < l.length) (hv : 1000000000000 < dval l) : readM l = (0, 3) := by
  refine readM_bad l h (Or.inl fun e => ?_)
  have h0 : moneyT (signD l) = [] := moneyT_big _ (by unfold signD; split <;> omega)
  rw [h0] at e
  rw [← e] at hv
  simp [dval] at hv
theorem readR_great (l : List UInt8) (h : ¬ 20000 < l.length) (hv : 1000000 < dval l) : readR l = (0, 3) := by
  refine readR_bad l h (Or.inl fun e => ?_)
  rw [rateT_big _ (by omega)] at e
  rw [← e] at hv
  simp [dval] at hv
theorem strB_eq (l : List UInt8) (s : ByteArray) : strB l = s ↔ l = bytesOf s := by
  constructor
  · intro h; rw [← h, bytesOf_strB]
  · intro h; rw [h, strB_bytesOf]
theorem head_at (s : ByteArray) (h : 0 < s.size) : (bytesOf s).head? = some s[0] := by
  unfold bytesOf
  rw [List.head?_eq_getElem?, List.getElem?_eq_getElem (by simpa using h)]
  rfl
theorem signD_yes (s : ByteArray) (h : 0 < s.size) (h45 : s[0].toNat = 45) : signD (bytesOf s) = -(dval (bytesOf s) : Int) := by
  unfold signD
  rw [head_at s h, if_pos]
  exact congrArg some (UInt8.toNat.inj h45)
theorem signD_no (s : ByteArray) (h : 0 < s.size) (h45 : s[0].toNat ≠ 45) : signD (bytesOf s) = (dval (bytesOf s) : Int) := by
  unfold signD
  rw [head_at s h, if_neg]
  intro e
  exact h45 (congrArg UInt8.toNat (Option.some.inj e))
theorem toList_of (s : ByteArray) : s.toList = bytesOf s := Lib.toList_data s
theorem neq_str {a b : ByteArray} (h : ¬ a = b) : (a.toList == b.toList) = false := by
  rw [beq_eq_false_iff_ne, toList_of, toList_of]
  intro e
  apply h
  rw [← strB_bytesOf a, ← strB_bytesOf b, e]
theorem neq_nil {a : ByteArray} (h : ¬ a = { data := #[] }) : (a.toList == []) = false := by
  rw [beq_eq_false_iff_ne, toList_of]
  intro e
  apply h
  rw [← strB_bytesOf a, e]; rfl
theorem empty_of {s : ByteArray} (h : s.size = 0) : s = { data := #[] } := by
  apply ByteArray.ext
  exact Array.eq_empty_of_size_eq_zero h
theorem bytes_ne {s : ByteArray} (h : 0 < s.size) : bytesOf s ≠ [] := by
  intro e
  have := bytesOf_len s
  rw [e] at this
  simp at this
  omega

set_option maxRecDepth 100000 in
set_option maxHeartbeats 2000000 in
theorem impl_readMoney (s : ByteArray) (w : World) (hs : s.size ≤ maxLen) (hT : Tab w) :
    Calls Tryd.prog 57 #[.string s] w fun e w' => e = .returned (tupV (readM (bytesOf s))) ∧ Below w.heap.size w w' := by
  have hs' := hs
  unfold maxLen at hs'
  have HT : Hid (Tab w) := hT
  clear hT
  have hlen := bytesOf_len s
  by_cases hsz : 20000 < s.size
  · have HR : Hid (readM (bytesOf s) = (0, 2)) := readM_size _ (by omega)
    have HD : Hid (digB s = (0, 2)) := by unfold Hid digB; rw [if_pos hsz]
    clear hlen
    go_enter Tryd.func57, Tryd.ntmps57
    go_wp2_with fail
    refine (impl_digits s _ hs).mono ?_
    rintro e w1 ⟨rfl, hb1⟩
    rw [HD.out, tupV_err _ _ (by decide)]
    go_wp2_with fail
    go_ret2
    refine ⟨?_, hb1⟩
    rw [HR.out, tupV_err _ _ (by decide)]; rfl
  have hl : ¬ 20000 < (bytesOf s).length := by omega
  by_cases hbig : 1000000000000 < dval (bytesOf s)
  · have HR : Hid (readM (bytesOf s) = (0, 3)) := readM_great _ hl hbig
    have HD : Hid (digB s = (0, 3)) := by unfold Hid digB; rw [if_neg hsz, if_neg (by omega)]
    clear hlen hbig hl
    go_enter Tryd.func57, Tryd.ntmps57
    go_wp2_with fail
    refine (impl_digits s _ hs).mono ?_
    rintro e w1 ⟨rfl, hb1⟩
    rw [HD.out, tupV_err _ _ (by decide)]
    go_wp2_with fail
    go_ret2
    refine ⟨?_, hb1⟩
    rw [HR.out, tupV_err _ _ (by decide)]; rfl
  have HD : Hid (digB s = ((dval (bytesOf s) : Int), 0)) := by unfold Hid digB; rw [if_neg hsz, if_pos (by omega)]
  by_cases hz : s.size = 0
  · have hse := empty_of hz
    subst hse
    have HR : Hid (readM (bytesOf { data := #[] }) = (0, 3)) := readM_bad _ hl (Or.inr rfl)
    have HV : Hid (dval (bytesOf { data := #[] }) = 0) := rfl
    have hne : ¬ strB (moneyT 0) = { data := #[] } := by
      intro e
      rw [strB_eq] at e
      exact moneyT_ne 0 (by omega) e
    have HN : Hid (¬ strB (moneyT 0) = { data := #[] }) := hne
    have HM : Hid (∀ w, Tab w → Calls Tryd.prog 20 #[.int .i64 0] w fun e w' => e = .returned (.string (strB (moneyT 0))) ∧ Below w.heap.size w w') := fun w hT => impl_moneyText 0 w hT
    generalize strB (moneyT 0) = E at *
    clear hlen hbig hl hne hz
    go_enter Tryd.func57, Tryd.ntmps57
    go_wp2_with fail
    refine (impl_digits _ _ hs).mono ?_
    rintro e w1 ⟨rfl, hb1⟩
    rw [HD.out, tupV_ok, HV.out]
    go_wp2_with fail
    refine (HM.out _ (by exact HT.out.below hb1)).mono ?_
    rintro e w2 ⟨rfl, hb2⟩
    have hn := neq_str HN.out
    have hn' := neq_nil HN.out
    go_wp2_with fail
    go_ret2
    refine ⟨?_, hb1.trans (hb2.mono hb1.size)⟩
    rw [HR.out, tupV_err _ _ (by decide)]; rfl
  have hpos : 0 < s.size := by omega
  have hne0 : ¬ s = { data := #[] } := by
    intro e
    rw [e] at hpos
    exact absurd hpos (by decide)
  have hne := neq_str hne0
  have hne' := neq_nil hne0
  clear hne0
  have hnil := bytes_ne hpos
  have hb8 : (s[0].toNat : Int) < 256 := by have := s[0].toNat_lt; omega
  have hv12 : dval (bytesOf s) ≤ 1000000000000 := by omega
  by_cases h45 : s[0].toNat = 45
  · have hsg : signD (bytesOf s) = -(dval (bytesOf s) : Int) := signD_yes s hpos h45
    have t45 : ((s[0].toNat : Int) == 45) = true := by rw [beq_iff_eq]; omega
    by_cases heq : moneyT (-(dval (bytesOf s) : Int)) = bytesOf s
    · have HR : Hid (readM (bytesOf s) = (-(dval (bytesOf s) : Int), 0)) := by rw [Hid, ← hsg]; exact readM_ok _ hl (by rw [hsg]; exact heq) hnil
      have HM : Hid (∀ w, Tab w → Calls Tryd.prog 20 #[.int .i64 (-(dval (bytesOf s) : Int))] w fun e w' => e = .returned (.string s) ∧ Below w.heap.size w w') := fun w hT => by
        have h := impl_moneyText (-(dval (bytesOf s) : Int)) w hT
        rw [heq, strB_bytesOf] at h
        exact h
      clear hsg heq hlen hl hbig hnil h45
      generalize dval (bytesOf s) = v at *
      go_enter Tryd.func57, Tryd.ntmps57
      go_wp2_with fail
      refine (impl_digits s _ hs).mono ?_
      rintro e w1 ⟨rfl, hb1⟩
      rw [HD.out, tupV_ok]
      go_wp2_with fail
      refine (HM.out _ (by exact HT.out.below hb1)).mono ?_
      rintro e w2 ⟨rfl, hb2⟩
      go_wp2_with fail
      go_ret2
      refine ⟨?_, hb1.trans (hb2.mono hb1.size)⟩
      rw [HR.out, tupV_ok]; rfl
    · have HR : Hid (readM (bytesOf s) = (0, 3)) := readM_bad _ hl (Or.inl (by rw [hsg]; exact heq))
      have HM : Hid (∀ w, Tab w → Calls Tryd.prog 20 #[.int .i64 (-(dval (bytesOf s) : Int))] w fun e w' => e = .returned (.string (strB (moneyT (-(dval (bytesOf s) : Int))))) ∧ Below w.heap.size w w') := fun w hT => impl_moneyText (-(dval (bytesOf s) : Int)) w hT
      have hEs : ¬ strB (moneyT (-(dval (bytesOf s) : Int))) = s := by rw [strB_eq]; exact heq
      generalize strB (moneyT (-(dval (bytesOf s) : Int))) = E at *
      have HE : Hid (¬ E = s) := hEs
      clear hsg heq hlen hl hbig hnil h45 hEs
      generalize dval (bytesOf s) = v at *
      go_enter Tryd.func57, Tryd.ntmps57
      go_wp2_with fail
      refine (impl_digits s _ hs).mono ?_
      rintro e w1 ⟨rfl, hb1⟩
      rw [HD.out, tupV_ok]
      go_wp2_with fail
      refine (HM.out _ (by exact HT.out.below hb1)).mono ?_
      rintro e w2 ⟨rfl, hb2⟩
      have hn := neq_str HE.out
      go_wp2_with fail
      go_ret2
      refine ⟨?_, hb1.trans (hb2.mono hb1.size)⟩
      rw [HR.out, tupV_err _ _ (by decide)]; rfl
  · have hsg : signD (bytesOf s) = (dval (bytesOf s) : Int) := signD_no s hpos h45
    have t45 : ((s[0].toNat : Int) == 45) = false := by rw [beq_eq_false_iff_ne]; omega
    by_cases heq : moneyT ((dval (bytesOf s) : Int)) = bytesOf s
    · have HR : Hid (readM (bytesOf s) = ((dval (bytesOf s) : Int), 0)) := by rw [Hid, ← hsg]; exact readM_ok _ hl (by rw [hsg]; exact heq) hnil
      have HM : Hid (∀ w, Tab w → Calls Tryd.prog 20 #[.int .i64 ((dval (bytesOf s) : Int))] w fun e w' => e = .returned (.string s) ∧ Below w.heap.size w w') := fun w hT => by
        have h := impl_moneyText ((dval (bytesOf s) : Int)) w hT
        rw [heq, strB_bytesOf] at h
        exact h
      clear hsg heq hlen hl hbig hnil h45
      generalize dval (bytesOf s) = v at *
      go_enter Tryd.func57, Tryd.ntmps57
      go_wp2_with fail
      refine (impl_digits s _ hs).mono ?_
      rintro e w1 ⟨rfl, hb1⟩
      rw [HD.out, tupV_ok]
      go_wp2_with fail
      refine (HM.out _ (by exact HT.out.below hb1)).mono ?_
      rintro e w2 ⟨rfl, hb2⟩
      go_wp2_with fail
      go_ret2
      refine ⟨?_, hb1.trans (hb2.mono hb1.size)⟩
      rw [HR.out, tupV_ok]; rfl
    · have HR : Hid (readM (bytesOf s) = (0, 3)) := readM_bad _ hl (Or.inl (by rw [hsg]; exact heq))
      have HM : Hid (∀ w, Tab w → Calls Tryd.prog 20 #[.int .i64 ((dval (bytesOf s) : Int))] w fun e w' => e = .returned (.string (strB (moneyT ((dval (bytesOf s) : Int))))) ∧ Below w.heap.size w w') := fun w hT => impl_moneyText ((dval (bytesOf s) : Int)) w hT
      have hEs : ¬ strB (moneyT ((dval (bytesOf s) : Int))) = s := by rw [strB_eq]; exact heq
      generalize strB (moneyT ((dval (bytesOf s) : Int))) = E at *
      have HE : Hid (¬ E = s) := hEs
      clear hsg heq hlen hl hbig hnil h45 hEs
      generalize dval (bytesOf s) = v at *
      go_enter Tryd.func57, Tryd.ntmps57
      go_wp2_with fail
      refine (impl_digits s _ hs).mono ?_
      rintro e w1 ⟨rfl, hb1⟩
      rw [HD.out, tupV_ok]
      go_wp2_with fail
      refine (HM.out _ (by exact HT.out.below hb1)).mono ?_
      rintro e w2 ⟨rfl, hb2⟩
      have hn := neq_str HE.out
      go_wp2_with fail
      go_ret2
      refine ⟨?_, hb1.trans (hb2.mono hb1.size)⟩
      rw [HR.out, tupV_err _ _ (by decide)]; rfl

end Go.Proofs.YtgbkpifkmkjbaaaDoor
