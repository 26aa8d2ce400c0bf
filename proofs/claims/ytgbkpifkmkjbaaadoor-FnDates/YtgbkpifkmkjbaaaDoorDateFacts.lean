/- What the law FnDates asks of dates' texts, without a program: a day comes back from its Date and from its text. -/
import Derived.Test.YtgbkpifkmkjbaaaDoorDRead
import Derived.Test.YtgbkpifkmkjbaaaDoorDayFacts
namespace Go.Proofs.YtgbkpifkmkjbaaaDoor
open Go.Lib (decDigits)

theorem dayOf_date {day : Int} (h : dayRB day = true) : dayOfB (dateB day).1 (dateB day).2.1 (dateB day).2.2 = (day, 0) := by
  obtain ⟨d0, d1⟩ := (dayRB_iff day).1 h
  have hI := dateB_is d0 d1
  unfold dayOfB
  rw [if_pos hI.rb]
  have := hI.eq
  unfold numB
  rw [← this]
theorem dval_dtN (y m d : Nat) (hy : y < 10000) (hm : m < 100) (hd : d < 100) : dval (dtN y m d) = 10000 * y + 100 * m + d := by
  unfold dtN
  rw [pad_low 1 m (by omega), pad_low 1 d (by omega)]
  have h1 := dval_dec 3 y (by omega)
  unfold dval at h1 ⊢
  rw [List.foldl_append, h1, List.foldl_cons, dstep_no _ _ (by decide), List.foldl_append, fold_digs2, List.foldl_cons, dstep_no _ _ (by decide), fold_digs2]
  omega
theorem read_date {day : Int} (h : dayRB day = true) : readDt (dateT day) = (day, 0) := by
  obtain ⟨d0, d1⟩ := (dayRB_iff day).1 h
  have hI := dateB_is d0 d1
  have y0 := hI.y0; have y1 := hI.y1; have m0 := hI.m0; have m1 := hI.m1; have e0 := hI.d0
  have e1 : (dateB day).2.2 ≤ 31 := by have := hI.d1; have := len_le (dateB day).1 (dateB day).2.1; omega
  have hl := dateT_len h
  have hT : dateT day = dtN (dateB day).1.toNat (dateB day).2.1.toNat (dateB day).2.2.toNat := by rw [dateT, if_pos h]
  have hv : (dval (dateT day) : Int) = 10000 * (dateB day).1 + 100 * (dateB day).2.1 + (dateB day).2.2 := by
    rw [hT, dval_dtN _ _ _ (by omega) (by omega) (by omega)]
    omega
  have hn : dnum (dateT day) = (day, 0) := by
    unfold dnum
    rw [hv]
    have a1 : (10000 * (dateB day).1 + 100 * (dateB day).2.1 + (dateB day).2.2) / 10000 = (dateB day).1 := by omega
    have a2 : (10000 * (dateB day).1 + 100 * (dateB day).2.1 + (dateB day).2.2) / 100 % 100 = (dateB day).2.1 := by omega
    have a3 : (10000 * (dateB day).1 + 100 * (dateB day).2.1 + (dateB day).2.2) % 100 = (dateB day).2.2 := by omega
    rw [a1, a2, a3]
    exact dayOf_date h
  have := readDt_ok (dateT day) (by omega) (by rw [hn]) (by rw [hn])
  rw [this, hn]
theorem read_text {l : List UInt8} {N : Int} (h : readDt l = (N, 0)) : dateT N = l := by
  unfold readDt at h
  split at h
  · simp at h
  · split at h
    · rename_i hc
      have := congrArg Prod.fst h
      have e : (dnum l).1 = N := this
      rw [← e]; exact hc.2
    · simp at h
end Go.Proofs.YtgbkpifkmkjbaaaDoor
