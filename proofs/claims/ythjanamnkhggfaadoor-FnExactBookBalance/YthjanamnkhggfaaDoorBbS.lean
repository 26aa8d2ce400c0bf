/- A balance asked (spec.BookBalance): what the call does. -/
import Derived.Test.YthjanamnkhggfaaDoorBbW
namespace Go.Proofs.YthjanamnkhggfaaDoor
open Go.RowKit
open Go.Proofs.YthjanamnkhggfaaDoor.Draw

set_option maxRecDepth 100000 in
set_option maxHeartbeats 8000000 in
theorem spec_bal (a b : Option Addr) (n m cap cap' : Nat) (L : Nat → Ln) (I : Nat → Tx) (hn : n ≤ 1048576) (hm : m ≤ 1048576) (hf : ∀ i, i < n → (L i).fits) (hfi : ∀ i, i < m → (I i).fits) (x y : ByteArray) (w : World) (h : LinesAt w a n L) (h' : TextsAt w b m I) :
    Calls Tryd.prog 33 #[.agg #[.slice a n cap, .slice b m cap'], .agg #[.string x, .string y]] w fun e w' => e = .returned (moneyV (balB n m L I x y)) ∧ Below w.heap.size w w' := by
  have T0 := three_new w #[.slice a n cap, .slice b m cap'] #[.string x, .string y] #[.int .i64 0, .int .i64 0] 26 38 43
  have HT0 : Hid (Three w (((w.alloc (.cells #[.slice a n cap, .slice b m cap'] 26)).alloc (.cells #[.string x, .string y] 38)).alloc (.cells #[.int .i64 0, .int .i64 0] 43)) #[.slice a n cap, .slice b m cap'] #[.string x, .string y] #[.int .i64 0, .int .i64 0]) := T0
  have HL : Hid (LinesAt w a n L) := h
  obtain ⟨B, hB⟩ : ∃ B, bookB n m L I = B := ⟨_, rfl⟩
  have HR : Hid (∀ W, Below w.heap.size w W → Calls Tryd.prog 12 #[.agg #[.slice a n cap, .slice b m cap']] W fun e w' => e = .returned (.bool B) ∧ Below W.heap.size W w') := fun W hW => by rw [← hB]; exact spec_bookRight a b n m cap cap' L I hn hm hf hfi W (h.below hW) (h'.below hW)
  have HV : Hid (balB n m L I x y = if B = true then (match findB L x y n with
    | some i => (((L i).m, 0) : Int × Int)
    | none => (0, 8)) else (0, 1)) := by unfold balB; rw [hB]; exact rfl
  have HFI : Hid (∀ W, Below w.heap.size w W → Calls Tryd.prog 78 #[.agg #[.slice a n cap, .slice b m cap'], .agg #[.string x, .string y]] W fun e w' => e = .returned (.int .i64 (findI L x y n)) ∧ Below W.heap.size W w') := fun W hW => spec_find a n cap _ L hn x y W (h.below hW)
  clear h h' hf hfi hB T0
  have s2 : w.heap.size ≤ w.heap.size + 1 + 1 := by omega
  go_enter Tryd.func33, Tryd.ntmps33
  go_wp2_with fail
  refine (HR.out _ HT0.out.bel).mono ?_
  rintro e w1 ⟨rfl, hb1⟩
  have T1 := HT0.out.next hb1
  have HT1 : Hid (Three w w1 #[.slice a n cap, .slice b m cap'] #[.string x, .string y] #[.int .i64 0, .int .i64 0]) := T1
  have b0 := T1.box 0
  have b1 := T1.box 1
  have r0 := T1.res 0
  have r1 := T1.res 1
  have o0 := T1.out 0
  have o1 := T1.out 1
  have of := T1.ofr
  simp at b0 b1 r0 r1 o0 o1
  clear hb1 T1 HT0
  cases B
  · have HV' : Hid (balB n m L I x y = (0, 1)) := HV.out
    go_wp2_with fail
    refine bodyPost_ret (v := moneyV (0, 1)) ?_ rfl ⟨by rw [HV'.out], ?_⟩
    · simp [results, Tryd.results33, go_sem, o0, o1, moneyV]
    · exact (HT1.out.bel.setCell s2 _).setCell s2 _
  go_wp2_with fail
  refine (HFI.out _ HT1.out.bel).mono ?_
  rintro e w2 ⟨rfl, hb2⟩
  have T2 := HT1.out.next hb2
  have HT2 : Hid (Three w w2 #[.slice a n cap, .slice b m cap'] #[.string x, .string y] #[.int .i64 0, .int .i64 0]) := T2
  clear b0 b1 r0 r1 o0 o1 of
  have b0 := T2.box 0
  have o0 := T2.out 0
  have o1 := T2.out 1
  have of := T2.ofr
  simp at b0 o0 o1
  clear hb2 T2 HT1 HFI HR
  cases hfb : findB L x y n with
  | none =>
    have HV' : Hid (balB n m L I x y = (0, 8)) := by rw [HV.out, hfb]; exact rfl
    have hfi : findI L x y n = -1 := by unfold findI; rw [hfb]
    rw [hfi]
    have q : decide ((-1 : Int) < 0) = true := rfl
    clear hfi hfb HV
    go_wp2_with fail
    refine bodyPost_ret (v := moneyV (0, 8)) ?_ rfl ⟨by rw [HV'.out], ?_⟩
    · simp [results, Tryd.results33, go_sem, o0, o1, moneyV]
    · exact (HT2.out.bel.setCell s2 _).setCell s2 _
  | some i =>
    obtain ⟨hin, _, _⟩ := findB_some hfb
    have HV' : Hid (balB n m L I x y = ((L i).m, 0)) := by rw [HV.out, hfb]; exact rfl
    have hfi : findI L x y n = (i : Int) := by unfold findI; rw [hfb]
    rw [hfi]
    have q : decide ((i : Int) < 0) = false := by simp
    rcases HL.out with h0 | ⟨g, o, rfl, hg, hc⟩
    · omega
    obtain ⟨_, _, d2⟩ := hc i hin
    have d2' := (HT2.out.bel.cell (p := ⟨g, o + i * 3 + 2, none⟩) hg).trans d2
    have hi0 : (0 : Int) ≤ (i : Int) := by omega
    have hi1 : (i : Int) < (n : Int) := by omega
    clear hfi hfb HV hc d2
    generalize (L i).m = mm at *
    go_wp2_with fail
    refine bodyPost_ret (v := moneyV (mm, 0)) ?_ rfl ⟨by rw [HV'.out], ?_⟩
    · simp [results, Tryd.results33, go_sem, o0, o1, moneyV]
    · exact (HT2.out.bel.setCell s2 _).setCell s2 _
end Go.Proofs.YthjanamnkhggfaaDoor
