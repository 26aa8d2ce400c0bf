/- DateRead's answer, and DateRead of the program: what each call does. -/
import Derived.Test.YtgbkpifkmkjbaaaDoorDTextI
import Derived.Test.YtgbkpifkmkjbaaaDoorReadD
import Derived.Test.YtgbkpifkmkjbaaaDoorReadM
namespace Go.Proofs.YtgbkpifkmkjbaaaDoor
open Go.RowKit
open Go.Lib (decDigits)

/-- The Date that a text's digits are, as a day. -/
def dnum (l : List UInt8) : Int × Int := dayOfB ((dval l : Int) / 10000) ((dval l : Int) / 100 % 100) ((dval l : Int) % 100)
/-- DateRead's answer. -/
def readDt (l : List UInt8) : Int × Int := if 20000 < l.length then (0, 2) else if (dnum l).2 = 0 ∧ dateT (dnum l).1 = l then ((dnum l).1, 0) else (0, 3)
theorem readDt_zero (l : List UInt8) : (readDt l).2 ≠ 0 → (readDt l).1 = 0 := by unfold readDt; (repeat' split) <;> simp
theorem dnum_great (l : List UInt8) (h : 1000000000000 < dval l) : dnum l = (0, 1) := by
  unfold dnum dayOfB
  rw [if_neg]
  simp [dateRB]; omega
theorem readDt_size (l : List UInt8) (h : 20000 < l.length) : readDt l = (0, 2) := by unfold readDt; rw [if_pos h]
theorem readDt_ok (l : List UInt8) (h : ¬ 20000 < l.length) (h1 : (dnum l).2 = 0) (h2 : dateT (dnum l).1 = l) : readDt l = ((dnum l).1, 0) := by unfold readDt; rw [if_neg h, if_pos ⟨h1, h2⟩]
theorem readDt_bad (l : List UInt8) (h : ¬ 20000 < l.length) (h1 : ¬ ((dnum l).2 = 0 ∧ dateT (dnum l).1 = l)) : readDt l = (0, 3) := by unfold readDt; rw [if_neg h, if_neg h1]
theorem dayOfB_right {y m d : Int} (h : (dayOfB y m d).2 = 0) : IsDate (dayOfB y m d).1 y m d := by
  unfold dayOfB at *
  split
  · rename_i hr; exact numB_is hr
  · rename_i hr; rw [if_neg hr] at h; simp at h
theorem dec_four (n : Nat) (h0 : 2000 ≤ n) (h1 : n ≤ 2099) : (decDigits n).length = 4 := by
  have hl : (decDigits n).length = 4 := by
    rw [dec_big n (by omega), dec_big (n / 10) (by omega), dec_big (n / 10 / 10) (by omega), dec_small (n / 10 / 10 / 10) (by omega)]
    simp
  exact hl
theorem pad_len2 (n : Nat) (h : n < 100) : (padN 2 (decDigits n)).length = 2 := by
  rw [pad_low 1 n (by omega)]
  exact digs_len 2 n
theorem dateT_len {day : Int} (h : dayRB day = true) : (dateT day).length = 10 := by
  obtain ⟨d0, d1⟩ := (dayRB_iff day).1 h
  have hI := dateB_is d0 d1
  have y0 := hI.y0; have y1 := hI.y1; have m0 := hI.m0; have m1 := hI.m1; have e0 := hI.d0
  have e1 : (dateB day).2.2 ≤ 31 := by have := hI.d1; have := len_le (dateB day).1 (dateB day).2.1; omega
  rw [dateT, if_pos h, dtN, List.length_append, List.length_cons, List.length_append, List.length_cons, dec_four _ (by omega) (by omega), pad_len2 _ (by omega), pad_len2 _ (by omega)]
theorem readDt_ten (l : List UInt8) (h : ¬ 20000 < l.length) (h10 : l.length ≠ 10) : readDt l = (0, 3) := by
  refine readDt_bad l h ?_
  rintro ⟨h1, h2⟩
  have hI := dayOfB_right h1
  have := dateT_len ((dayRB_iff _).2 hI.range)
  rw [← h2] at h10
  exact h10 this

set_option maxRecDepth 100000 in
set_option maxHeartbeats 2000000 in
theorem impl_readDate (s : ByteArray) (w : World) (hs : s.size ≤ maxLen) (hM : Mon w) (hT : Tab w) :
    Calls Tryd.prog 79 #[.string s] w fun e w' => e = .returned (tupV (readDt (bytesOf s))) ∧ Below w.heap.size w w' := by
  have hmm := @run_makeMap Tryd.prog
  have hlt := hM.lt
  have hs' := hs
  unfold maxLen at hs'
  have HT : Hid (Tab w) := hT
  have HM : Hid (Mon w) := hM
  clear hT hM
  have hlen := bytesOf_len s
  have HS : Hid (∀ w, Calls Tryd.prog 96 #[.string s] w fun e w' => e = .returned (tupV (digB s)) ∧ Below w.heap.size w w') := fun w => impl_digits s w hs
  by_cases hsz : 20000 < s.size
  · have HR : Hid (readDt (bytesOf s) = (0, 2)) := readDt_size _ (by omega)
    have HD : Hid (digB s = (0, 2)) := by unfold Hid digB; rw [if_pos hsz]
    clear hlen
    go_enter Tryd.func79, Tryd.ntmps79
    go_wp2_with fail
    refine (HS.out _).mono ?_
    rintro e w1 ⟨rfl, hb1⟩
    rw [HD.out, tupV_err _ _ (by decide)]
    go_wp2_with fail
    go_ret2
    refine ⟨?_, hb1⟩
    rw [HR.out, tupV_err _ _ (by decide)]; rfl
  have hl : ¬ 20000 < (bytesOf s).length := by omega
  by_cases hbig : 1000000000000 < dval (bytesOf s)
  · have HR : Hid (readDt (bytesOf s) = (0, 3)) := readDt_bad _ hl (by rw [dnum_great _ hbig]; simp)
    have HD : Hid (digB s = (0, 3)) := by unfold Hid digB; rw [if_neg hsz, if_neg (by omega)]
    clear hlen hbig hl
    go_enter Tryd.func79, Tryd.ntmps79
    go_wp2_with fail
    refine (HS.out _).mono ?_
    rintro e w1 ⟨rfl, hb1⟩
    rw [HD.out, tupV_err _ _ (by decide)]
    go_wp2_with fail
    go_ret2
    refine ⟨?_, hb1⟩
    rw [HR.out, tupV_err _ _ (by decide)]; rfl
  have HD : Hid (digB s = ((dval (bytesOf s) : Int), 0)) := by unfold Hid digB; rw [if_neg hsz, if_pos (by omega)]
  have hv12 : dval (bytesOf s) ≤ 1000000000000 := by omega
  have HRok := readDt_ok (bytesOf s) hl
  have HRbad := readDt_bad (bytesOf s) hl
  obtain ⟨v, hv⟩ : ∃ v, dval (bytesOf s) = v := ⟨_, rfl⟩
  have HV : Hid (dval (bytesOf s) = v) := hv
  rw [hv] at HD hv12
  clear hlen hl hbig hsz hv
  obtain ⟨A, hA⟩ : ∃ A, (v : Int) / 10000 = A := ⟨_, rfl⟩
  obtain ⟨B1, hB1⟩ : ∃ B1, (v : Int) / 100 = B1 := ⟨_, rfl⟩
  obtain ⟨B, hB⟩ : ∃ B, B1 % 100 = B := ⟨_, rfl⟩
  obtain ⟨C, hC⟩ : ∃ C, (v : Int) % 100 = C := ⟨_, rfl⟩
  have hB0 : 0 ≤ B1 := by omega
  have HN : Hid (dnum (bytesOf s) = dayOfB A B C) := by rw [Hid, dnum, ← hA, ← hB, ← hB1, ← hC, HV.out]
  rw [HN.out] at HRok HRbad
  have H1 : Hid (∀ b w, Cal w b 0 → Mon w → 2 ≠ b → Calls Tryd.prog 78 #[.map (some b), .agg #[.int .i64 A, .int .i64 B, .int .i64 C]] w fun e w' => e = .returned (tupV (dayOfB A B C)) ∧ Cal w' b (0 + 1) ∧ w.grownBy w' (some b)) := fun b w hC hM hG => impl_day A B C b 0 (by omega) w hC hM hG
  have hz := dayOfB_zero A B C
  clear HN
  generalize dayOfB A B C = r at *
  obtain ⟨N, c⟩ := r
  simp only at HRok HRbad hz
  have HRok : Hid (c = 0 → dateT N = bytesOf s → readDt (bytesOf s) = (N, 0)) := HRok
  have HRbad : Hid (¬ (c = 0 ∧ dateT N = bytesOf s) → readDt (bytesOf s) = (0, 3)) := HRbad
  by_cases hc : c = 0
  case neg =>
    have hx : N = 0 := hz hc
    subst hx
    rw [tupV_err _ _ hc] at H1
    have HR : Hid (readDt (bytesOf s) = (0, 3)) := HRbad.out (fun h => hc h.1)
    clear hz hc HRok HRbad
    go_enter Tryd.func79, Tryd.ntmps79
    go_wp2_with fail
    refine (HS.out _).mono ?_
    rintro e w1 ⟨rfl, hb1⟩
    rw [HD.out, tupV_ok]
    go_wp2_with fail
    refine (H1.out _ _ (Cal.new rfl) (by exact (HM.out.below hb1).alloc _) (by have := hb1.size; omega)).mono ?_
    rintro e w2 ⟨rfl, _, hg2⟩
    have HB2 : Hid (Below w.heap.size w w2) := Below.grown (hb1.alloc hb1.size _) hg2 (by have := hb1.size; simp; omega) (fun k hk => by cases hk; exact hb1.size)
    clear hg2 hb1
    go_wp2_with fail
    go_ret2
    exact ⟨by rw [HR.out, tupV_err _ _ (by decide)]; rfl, HB2.out⟩
  subst hc
  rw [tupV_ok] at H1
  by_cases heq : dateT N = bytesOf s
  · have HR : Hid (readDt (bytesOf s) = (N, 0)) := HRok.out rfl heq
    have HX : Hid (∀ w, Mon w → Tab w → Calls Tryd.prog 37 #[.int .i64 N] w fun e w' => e = .returned (.string s) ∧ Below w.heap.size w w') := fun w hM hT => by
      have h := impl_dateText N w hM hT
      rw [heq, strB_bytesOf] at h
      exact h
    clear hz heq HRok HRbad
    go_enter Tryd.func79, Tryd.ntmps79
    go_wp2_with fail
    refine (HS.out _).mono ?_
    rintro e w1 ⟨rfl, hb1⟩
    rw [HD.out, tupV_ok]
    go_wp2_with fail
    refine (H1.out _ _ (Cal.new rfl) (by exact (HM.out.below hb1).alloc _) (by have := hb1.size; omega)).mono ?_
    rintro e w2 ⟨rfl, _, hg2⟩
    have HB2 : Hid (Below w.heap.size w w2) := Below.grown (hb1.alloc hb1.size _) hg2 (by have := hb1.size; simp; omega) (fun k hk => by cases hk; exact hb1.size)
    clear hg2 hb1
    go_wp2_with fail
    refine (HX.out _ (by exact HM.out.below HB2.out) (by exact HT.out.below HB2.out)).mono ?_
    rintro e w3 ⟨rfl, hb3⟩
    have HB3 : Hid (Below w.heap.size w w3) := HB2.out.trans (hb3.mono HB2.out.size)
    clear hb3
    go_wp2_with fail
    go_ret2
    exact ⟨by rw [HR.out, tupV_ok]; rfl, HB3.out⟩
  · have HR : Hid (readDt (bytesOf s) = (0, 3)) := HRbad.out (fun h => heq h.2)
    have HX : Hid (∀ w, Mon w → Tab w → Calls Tryd.prog 37 #[.int .i64 N] w fun e w' => e = .returned (.string (strB (dateT N))) ∧ Below w.heap.size w w') := fun w hM hT => impl_dateText N w hM hT
    have hEs : ¬ strB (dateT N) = s := by rw [strB_eq]; exact heq
    generalize strB (dateT N) = E at *
    have HE : Hid (¬ E = s) := hEs
    clear hz heq hEs HRok HRbad
    go_enter Tryd.func79, Tryd.ntmps79
    go_wp2_with fail
    refine (HS.out _).mono ?_
    rintro e w1 ⟨rfl, hb1⟩
    rw [HD.out, tupV_ok]
    go_wp2_with fail
    refine (H1.out _ _ (Cal.new rfl) (by exact (HM.out.below hb1).alloc _) (by have := hb1.size; omega)).mono ?_
    rintro e w2 ⟨rfl, _, hg2⟩
    have HB2 : Hid (Below w.heap.size w w2) := Below.grown (hb1.alloc hb1.size _) hg2 (by have := hb1.size; simp; omega) (fun k hk => by cases hk; exact hb1.size)
    clear hg2 hb1
    go_wp2_with fail
    refine (HX.out _ (by exact HM.out.below HB2.out) (by exact HT.out.below HB2.out)).mono ?_
    rintro e w3 ⟨rfl, hb3⟩
    have HB3 : Hid (Below w.heap.size w w3) := HB2.out.trans (hb3.mono HB2.out.size)
    have hn := neq_str HE.out
    clear hb3
    go_wp2_with fail
    go_ret2
    exact ⟨by rw [HR.out, tupV_err _ _ (by decide)]; rfl, HB3.out⟩

set_option maxRecDepth 100000 in
set_option maxHeartbeats 1000000 in
theorem impl_dateRead (s : ByteArray) (w : World) (hs : s.size ≤ maxLen) (hM : Mon w) (hT : Tab w) (hL : Lay w) :
    Calls Tryd.prog 36 #[.string s] w fun e w' => e = .returned (moneyV (readDt (bytesOf s))) ∧ Below w.heap.size w w' := by
  have hz := readDt_zero (bytesOf s)
  have H1 : Hid (∀ w, Mon w → Tab w → Calls Tryd.prog 79 #[.string s] w fun e w' => e = .returned (tupV (readDt (bytesOf s))) ∧ Below w.heap.size w w') := fun w hM hT => impl_readDate s w hs hM hT
  generalize readDt (bytesOf s) = r at *
  have HL : Hid (Lay w) := hL
  have HT : Hid (Tab w) := hT
  have HM : Hid (Mon w) := hM
  have HZ : Hid (r.2 ≠ 0 → r.1 = 0) := hz
  clear hL hz hT hM
  go_enter Tryd.func36, Tryd.ntmps36
  go_wp2_with fail
  refine (H1.out _ (by exact HM.out.alloc _) (by exact HT.out.below ((Below.refl _ _).alloc (Nat.le_refl _) _))).mono ?_
  rintro e w1 ⟨rfl, hb1⟩
  simp only [tupV]
  have hb1' : Below w.heap.size w w1 := ((Below.refl w.heap.size w).alloc (Nat.le_refl _) _).trans (hb1.mono (by simp))
  go_wp2_with fail
  refine (dout_any r HZ.out _ (by exact HL.out.below hb1')).mono ?_
  rintro e w2 ⟨rfl, hb⟩
  simp only [moneyV]
  have hb2 := hb1.trans (hb.mono hb1.size)
  obtain ⟨hc, hf⟩ := bcell hb2
  have hz : w.heap.size < w2.heap.size := by have := hb2.size; simp at this; omega
  clear hb1 hb1' hb
  go_wp2_with fail
  refine bodyPost_ret (v := moneyV r) ?_ rfl ⟨rfl, ?_⟩
  · simp [results, Tryd.results36, go_sem, hc, moneyV]
  · have hbb : Below w.heap.size w w2 := ((Below.refl w.heap.size w).alloc (Nat.le_refl _) _).trans (hb2.mono (by simp))
    repeat (first | exact hbb | refine Below.setCell ?_ (by exact Nat.le_refl _) _ | refine Below.alloc ?_ (by simp [World.setCell]; omega) _)

end Go.Proofs.YtgbkpifkmkjbaaaDoor
