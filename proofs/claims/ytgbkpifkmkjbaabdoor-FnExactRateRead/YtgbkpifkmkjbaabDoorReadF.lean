/- Reading texts as rates, and the faces MoneyRead and RateRead of the program: what each call does. -/
import Derived.Test.YtgbkpifkmkjbaabDoorReadM
namespace Go.Proofs.YtgbkpifkmkjbaabDoor
open Go.RowKit

theorem rate_ne_of {s : ByteArray} (h : rateT (dval (bytesOf s)) = bytesOf s) : bytesOf s ≠ [] := by
  intro e
  rw [e] at h
  exact rateT_ne 0 (by omega) h

set_option maxRecDepth 100000 in
set_option maxHeartbeats 2000000 in
theorem impl_readRate (s : ByteArray) (w : World) (hs : s.size ≤ maxLen) (hT : Tab w) :
    Calls Tryd.prog 34 #[.string s] w fun e w' => e = .returned (tupV (readR (bytesOf s))) ∧ Below w.heap.size w w' := by
  have hs' := hs
  unfold maxLen at hs'
  have HT : Hid (Tab w) := hT
  clear hT
  have hlen := bytesOf_len s
  by_cases hsz : 20000 < s.size
  · have HR : Hid (readR (bytesOf s) = (0, 2)) := readR_size _ (by omega)
    have HD : Hid (digB s = (0, 2)) := by unfold Hid digB; rw [if_pos hsz]
    clear hlen
    go_enter Tryd.func34, Tryd.ntmps34
    go_wp2_with fail
    refine (impl_digits s _ hs).mono ?_
    rintro e w1 ⟨rfl, hb1⟩
    rw [HD.out, tupV_err _ _ (by decide)]
    go_wp2_with fail
    go_ret2
    refine ⟨?_, hb1⟩
    rw [HR.out, tupV_err _ _ (by decide)]; rfl
  have hl : ¬ 20000 < (bytesOf s).length := by omega
  by_cases hbig : 1000000000000 < dval (bytesOf s)
  · have HR : Hid (readR (bytesOf s) = (0, 3)) := readR_great _ hl (by omega)
    have HD : Hid (digB s = (0, 3)) := by unfold Hid digB; rw [if_neg hsz, if_neg (by omega)]
    clear hlen hbig hl
    go_enter Tryd.func34, Tryd.ntmps34
    go_wp2_with fail
    refine (impl_digits s _ hs).mono ?_
    rintro e w1 ⟨rfl, hb1⟩
    rw [HD.out, tupV_err _ _ (by decide)]
    go_wp2_with fail
    go_ret2
    refine ⟨?_, hb1⟩
    rw [HR.out, tupV_err _ _ (by decide)]; rfl
  have HD : Hid (digB s = ((dval (bytesOf s) : Int), 0)) := by unfold Hid digB; rw [if_neg hsz, if_pos (by omega)]
  have hv12 : dval (bytesOf s) ≤ 1000000000000 := by omega
  by_cases heq : rateT (dval (bytesOf s)) = bytesOf s
  · have HR : Hid (readR (bytesOf s) = ((dval (bytesOf s) : Int), 0)) := readR_ok _ hl heq (rate_ne_of heq)
    have HM : Hid (∀ w, Tab w → Calls Tryd.prog 59 #[.int .i64 (dval (bytesOf s) : Int)] w fun e w' => e = .returned (.string s) ∧ Below w.heap.size w w') := fun w hT => by
      have h := impl_rateText (dval (bytesOf s) : Int) w hT
      rw [heq, strB_bytesOf] at h
      exact h
    clear heq hlen hl hbig
    generalize dval (bytesOf s) = v at *
    go_enter Tryd.func34, Tryd.ntmps34
    go_wp2_with fail
    refine (impl_digits s _ hs).mono ?_
    rintro e w1 ⟨rfl, hb1⟩
    rw [HD.out, tupV_ok]
    go_wp2_with fail
    refine (HM.out _ (by exact HT.out.below hb1)).mono ?_
    rintro e w2 ⟨rfl, hb2⟩
    go_wp2_with fail
    go_ret2
    refine ⟨?_, hb1.trans (hb2.mono hb1.size)⟩
    rw [HR.out, tupV_ok]; rfl
  · have HR : Hid (readR (bytesOf s) = (0, 3)) := readR_bad _ hl (Or.inl heq)
    have HM : Hid (∀ w, Tab w → Calls Tryd.prog 59 #[.int .i64 (dval (bytesOf s) : Int)] w fun e w' => e = .returned (.string (strB (rateT (dval (bytesOf s))))) ∧ Below w.heap.size w w') := fun w hT => impl_rateText (dval (bytesOf s) : Int) w hT
    have hEs : ¬ strB (rateT (dval (bytesOf s))) = s := by rw [strB_eq]; exact heq
    generalize strB (rateT (dval (bytesOf s))) = E at *
    have HE : Hid (¬ E = s) := hEs
    clear heq hlen hl hbig hEs
    generalize dval (bytesOf s) = v at *
    go_enter Tryd.func34, Tryd.ntmps34
    go_wp2_with fail
    refine (impl_digits s _ hs).mono ?_
    rintro e w1 ⟨rfl, hb1⟩
    rw [HD.out, tupV_ok]
    go_wp2_with fail
    refine (HM.out _ (by exact HT.out.below hb1)).mono ?_
    rintro e w2 ⟨rfl, hb2⟩
    have hn := neq_str HE.out
    go_wp2_with fail
    go_ret2
    refine ⟨?_, hb1.trans (hb2.mono hb1.size)⟩
    rw [HR.out, tupV_err _ _ (by decide)]; rfl


set_option maxRecDepth 100000 in
set_option maxHeartbeats 400000 in
theorem impl_rateRead (s : ByteArray) (w : World) (hs : s.size ≤ maxLen) (hT : Tab w) (hL : Lay w) :
    Calls Tryd.prog 12 #[.string s] w fun e w' => e = .returned (moneyV (readR (bytesOf s))) ∧ Below w.heap.size w w' := by
  have hz := readR_zero (bytesOf s)
  have h1 := fun w hT => impl_readRate s w hs hT
  generalize readR (bytesOf s) = r at *
  have H1 : Hid (∀ w, Tab w → Calls Tryd.prog 34 #[.string s] w fun e w' => e = .returned (tupV r) ∧ Below w.heap.size w w') := h1
  have HL : Hid (Lay w) := hL
  have HT : Hid (Tab w) := hT
  have HZ : Hid (r.2 ≠ 0 → r.1 = 0) := hz
  clear h1 hL hz hT
  go_enter Tryd.func12, Tryd.ntmps12
  go_wp2_with fail
  refine (H1.out _ (by exact HT.out.below ((Below.refl _ _).alloc (Nat.le_refl _) _))).mono ?_
  rintro e w1 ⟨rfl, hb1⟩
  simp only [tupV]
  have hb1' : Below w.heap.size w w1 := ((Below.refl w.heap.size w).alloc (Nat.le_refl _) _).trans (hb1.mono (by simp))
  go_wp2_with fail
  refine (out_any r HZ.out _ (by exact HL.out.below hb1')).mono ?_
  rintro e w2 ⟨rfl, hb⟩
  simp only [moneyV]
  have hb2 := hb1.trans (hb.mono hb1.size)
  obtain ⟨hc, hf⟩ := bcell hb2
  have hz : w.heap.size < w2.heap.size := by have := hb2.size; simp at this; omega
  clear hb1 hb1' hb
  go_wp2_with fail
  refine bodyPost_ret (v := moneyV r) ?_ rfl ⟨rfl, ?_⟩
  · simp [results, Tryd.results12, go_sem, hc, moneyV]
  · have hbb : Below w.heap.size w w2 := ((Below.refl w.heap.size w).alloc (Nat.le_refl _) _).trans (hb2.mono (by simp))
    repeat (first | exact hbb | refine Below.setCell ?_ (by exact Nat.le_refl _) _ | refine Below.alloc ?_ (by simp [World.setCell]; omega) _)

end Go.Proofs.YtgbkpifkmkjbaabDoor
