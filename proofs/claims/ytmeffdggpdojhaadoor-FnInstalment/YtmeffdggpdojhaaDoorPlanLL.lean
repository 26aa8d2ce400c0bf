/- LoanLeft and Instalment, of the program and of its model: what each call does. -/
import Derived.Test.YtmeffdggpdojhaaDoorPlanInst
namespace Go.Proofs.YtmeffdggpdojhaaDoor
open Go.RowKit

/-- A call's own two blocks, at the head of what it makes: its boxed loan and its result. -/
structure Two (w W : World) (cs rs : Array Value) : Prop where
  box : ∀ j, W.cell? ⟨w.heap.size, j, none⟩ = cs[j]?
  res : ∀ j, W.cell? ⟨w.heap.size + 1, j, none⟩ = rs[j]?
  fro : ∀ j, W.frozen? ⟨w.heap.size + 1, j, none⟩ = false
  size : w.heap.size + 2 ≤ W.heap.size
  bel : Below w.heap.size w W
theorem two_new (w : World) (cs rs : Array Value) (t t' : TypeId) : Two w ((w.alloc (.cells cs t)).alloc (.cells rs t')) cs rs :=
  ⟨fun j => cell_at rfl j, fun j => cell_new_at (by simp) j, fun j => frozen_new_at (by simp) j, by simp, ((Below.refl _ _).alloc (Nat.le_refl _) _).alloc (by simp) _⟩
theorem Two.next {w W W' : World} {cs rs : Array Value} (h : Two w W cs rs) (hb : Below W.heap.size W W') : Two w W' cs rs :=
  ⟨fun j => (hb.cell (p := ⟨w.heap.size, j, none⟩) (by have := h.size; simp; omega)).trans (h.box j), fun j => (hb.cell (p := ⟨w.heap.size + 1, j, none⟩) (by have := h.size; simp; omega)).trans (h.res j),
   fun j => (hb.frozen (p := ⟨w.heap.size + 1, j, none⟩) (by have := h.size; simp; omega)).trans (h.fro j), Nat.le_trans h.size hb.size, h.bel.trans (hb.mono h.bel.size)⟩
theorem Two.drew {w W : World} {cs rs : Array Value} (h : Two w W cs rs) : Two w W.drew cs rs := ⟨h.box, h.res, h.fro, h.size, h.bel.drew⟩
theorem due_shape {w : World} {v : Value} {s : Int} {n : Nat} (h : Due w v s n) : ∃ g cap, v = .slice (some ⟨g, 0, none⟩) n cap := by
  obtain ⟨g, cap, e, _⟩ := h; exact ⟨g, cap, e⟩

def loanLeftB (p r b s t pay : Int) : Int × Int := if loanB p r b s t = true ∧ 0 ≤ pay ∧ pay ≤ 20000000000 then (leftI p r b s pay t.toNat, 0) else (0, 1)
theorem loanLeftB_ok {p r b s pay : Int} {n : Nat} (h : LoanOk p r b s n) (y0 : 0 ≤ pay) (y1 : pay ≤ 20000000000) : loanLeftB p r b s n pay = (leftI p r b s pay n, 0) := by
  rw [loanLeftB, if_pos ⟨(loanB_iff _ _ _ _ _).2 h, y0, y1⟩, Int.toNat_natCast]
theorem LoanOk.nat {p r b s t : Int} (h : LoanOk p r b s t) : ∃ n : Nat, t = n := ⟨t.toNat, by have := h.t0; omega⟩

set_option maxRecDepth 100000 in
set_option maxHeartbeats 4000000 in
theorem impl_loanLeft (p r b s t pay : Int) (w : World) (hM : Mon w) (hL : Lay w) :
    Calls Tryd.prog 14 #[.agg #[.int .i64 p, .int .i64 r, .int .i64 b, .int .i64 s, .int .i64 t], .int .i64 pay] w fun e w' => e = .returned (moneyV (loanLeftB p r b s t pay)) ∧ Below w.heap.size w w' := by
  have HM : Hid (Mon w) := hM
  have HL : Hid (Lay w) := hL
  clear hM hL
  cases hr : loanB p r b s t
  · have HR : Hid (loanLeftB p r b s t pay = (0, 1)) := by rw [Hid, loanLeftB, if_neg]; simp [hr]
    have H : Hid (loanB p r b s t = false) := hr
    clear hr
    go_enter Tryd.func14, Tryd.ntmps14
    go_wp2_with fail
    refine (impl_loanRight p r b s t _ (by exact HM.out.below (two_new _ _ _ _ _).bel)).mono ?_
    rintro e w1 ⟨rfl, hb1⟩
    have T1 := (two_new w #[.int .i64 p, .int .i64 r, .int .i64 b, .int .i64 s, .int .i64 t] #[.int .i64 0, .int .i64 0] 24 27).next hb1
    rw [H.out]
    have c1 := T1.box
    have r1 := T1.res
    have f1 := T1.fro
    have HT : Hid (Two w w1 #[.int .i64 p, .int .i64 r, .int .i64 b, .int .i64 s, .int .i64 t] #[.int .i64 0, .int .i64 0]) := T1
    clear hb1 T1
    go_wp2_with fail
    refine bodyPost_ret (v := moneyV (loanLeftB p r b s t pay)) ?_ rfl ⟨rfl, ?_⟩
    · rw [HR.out]
      simp [results, Tryd.results14, go_sem, r1, moneyV]
    · exact (HT.out.bel.setCell (Nat.le_succ _) _).setCell (Nat.le_succ _) _
  have H : Hid (loanB p r b s t = true) := hr
  by_cases c0 : pay < 0
  · have t0 : decide (pay < 0) = true := by simpa using c0
    have HR : Hid (loanLeftB p r b s t pay = (0, 1)) := by rw [Hid, loanLeftB, if_neg]; omega
    clear hr
    go_enter Tryd.func14, Tryd.ntmps14
    go_wp2_with fail
    refine (impl_loanRight p r b s t _ (by exact HM.out.below (two_new _ _ _ _ _).bel)).mono ?_
    rintro e w1 ⟨rfl, hb1⟩
    have T1 := (two_new w #[.int .i64 p, .int .i64 r, .int .i64 b, .int .i64 s, .int .i64 t] #[.int .i64 0, .int .i64 0] 24 27).next hb1
    rw [H.out]
    have c1 := T1.box
    have r1 := T1.res
    have f1 := T1.fro
    have HT : Hid (Two w w1 #[.int .i64 p, .int .i64 r, .int .i64 b, .int .i64 s, .int .i64 t] #[.int .i64 0, .int .i64 0]) := T1
    clear hb1 T1
    go_wp2_with fail
    refine bodyPost_ret (v := moneyV (loanLeftB p r b s t pay)) ?_ rfl ⟨rfl, ?_⟩
    · rw [HR.out]
      simp [results, Tryd.results14, go_sem, r1, moneyV]
    · exact (HT.out.bel.setCell (Nat.le_succ _) _).setCell (Nat.le_succ _) _
  have t0 : decide (pay < 0) = false := by simpa using c0
  by_cases c1 : 20000000000 < pay
  · have t1 : decide (20000000000 < pay) = true := by simpa using c1
    have HR : Hid (loanLeftB p r b s t pay = (0, 1)) := by rw [Hid, loanLeftB, if_neg]; omega
    clear hr
    go_enter Tryd.func14, Tryd.ntmps14
    go_wp2_with fail
    refine (impl_loanRight p r b s t _ (by exact HM.out.below (two_new _ _ _ _ _).bel)).mono ?_
    rintro e w1 ⟨rfl, hb1⟩
    have T1 := (two_new w #[.int .i64 p, .int .i64 r, .int .i64 b, .int .i64 s, .int .i64 t] #[.int .i64 0, .int .i64 0] 24 27).next hb1
    rw [H.out]
    have c1 := T1.box
    have r1 := T1.res
    have f1 := T1.fro
    have HT : Hid (Two w w1 #[.int .i64 p, .int .i64 r, .int .i64 b, .int .i64 s, .int .i64 t] #[.int .i64 0, .int .i64 0]) := T1
    clear hb1 T1
    go_wp2_with fail
    refine bodyPost_ret (v := moneyV (loanLeftB p r b s t pay)) ?_ rfl ⟨rfl, ?_⟩
    · rw [HR.out]
      simp [results, Tryd.results14, go_sem, r1, moneyV]
    · exact (HT.out.bel.setCell (Nat.le_succ _) _).setCell (Nat.le_succ _) _
  have t1 : decide (20000000000 < pay) = false := by simpa using c1
  have hok := (loanB_iff p r b s t).1 hr
  obtain ⟨n, rfl⟩ := hok.nat
  have HO : Hid (LoanOk p r b s n) := hok
  have y0 : 0 ≤ pay := by omega
  have y1 : pay ≤ 20000000000 := by omega
  have HR : Hid (loanLeftB p r b s n pay = (leftI p r b s pay n, 0)) := loanLeftB_ok hok y0 y1
  clear hr hok c0 c1
  have HF : Hid (∀ v w, Due w v s (n + 1) → Mon w → Lay w → Calls Tryd.prog 50 #[.agg #[.int .i64 p, .int .i64 r, .int .i64 b, .int .i64 s, .int .i64 (n : Int), v], .int .i64 pay] w fun e w' => e = .returned (.int .i64 (leftI p r b s pay n)) ∧ Below w.heap.size w w') := fun v w a b c => impl_left HO.out y0 y1 v w a b c
  generalize leftI p r b s pay n = x at *
  go_enter Tryd.func14, Tryd.ntmps14
  go_wp2_with fail
  refine (impl_loanRight p r b s (n : Int) _ (by exact HM.out.below (two_new _ _ _ _ _).bel)).mono ?_
  rintro e w1 ⟨rfl, hb1⟩
  have T1 := (two_new w #[.int .i64 p, .int .i64 r, .int .i64 b, .int .i64 s, .int .i64 (n : Int)] #[.int .i64 0, .int .i64 0] 24 27).next hb1
  rw [H.out]
  have c1 := T1.box
  have r1 := T1.res
  have f1 := T1.fro
  have HT : Hid (Two w w1 #[.int .i64 p, .int .i64 r, .int .i64 b, .int .i64 s, .int .i64 (n : Int)] #[.int .i64 0, .int .i64 0]) := T1
  clear hb1 T1
  go_wp2_with fail
  refine (impl_course HO.out _ (by exact HM.out.below HT.out.bel) (by exact HL.out.below HT.out.bel)).mono ?_
  rintro e w2 ⟨v, rfl, hv, hb2⟩
  have T2 := HT.out.next hb2
  have HT2 : Hid (Two w w2 #[.int .i64 p, .int .i64 r, .int .i64 b, .int .i64 s, .int .i64 (n : Int)] #[.int .i64 0, .int .i64 0]) := T2
  obtain ⟨g, cap, rfl⟩ := due_shape hv
  have HV : Hid (Due w2 (.slice (some ⟨g, 0, none⟩) (n + 1) cap) s (n + 1)) := hv
  clear hb2 hv T2 c1 r1 f1
  go_wp2_with fail
  refine (HF.out _ _ HV.out (by exact HM.out.below HT2.out.bel) (by exact HL.out.below HT2.out.bel)).mono ?_
  rintro e w3 ⟨rfl, hb3⟩
  have T3 := HT2.out.next hb3
  have r3 := T3.res
  have f3 := T3.fro
  have HT3 : Hid (Two w w3 #[.int .i64 p, .int .i64 r, .int .i64 b, .int .i64 s, .int .i64 (n : Int)] #[.int .i64 0, .int .i64 0]) := T3
  clear hb3 T3
  go_wp2_with fail
  refine bodyPost_ret (v := moneyV (loanLeftB p r b s n pay)) ?_ rfl ⟨rfl, ?_⟩
  · rw [HR.out]
    simp [results, Tryd.results14, go_sem, r3, moneyV]
  · exact (HT3.out.bel.setCell (Nat.le_succ _) _).setCell (Nat.le_succ _) _


end Go.Proofs.YtmeffdggpdojhaaDoor
