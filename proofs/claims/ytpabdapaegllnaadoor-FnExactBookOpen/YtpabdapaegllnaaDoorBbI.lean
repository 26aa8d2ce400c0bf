/- A balance asked (impl.BookBalance): what the call does. -/
import Derived.Test.YtpabdapaegllnaaDoorBbS
namespace Go.Proofs.YtpabdapaegllnaaDoor
open Go.RowKit
open Go.Proofs.YtpabdapaegllnaaDoor.Draw

set_option maxRecDepth 100000 in
set_option maxHeartbeats 8000000 in
theorem impl_bal (g o g' o' n m cap cap' : Nat) (L : Nat → Ln) (I : Nat → Tx) (hn : n ≤ 1048576) (hm : m ≤ 1048576) (hf : ∀ i, i < n → (L i).fits) (hfi : ∀ i, i < m → (I i).fits) (x y : ByteArray) (hx : x.size ≤ maxLen) (hy : y.size ≤ maxLen) (w : World) (hL : Lay w) (h : LinesAt w (some ⟨g, o, none⟩) n L) (h' : TextsAt w (some ⟨g', o', none⟩) m I) :
    Calls Tryd.prog 16 #[.agg #[.slice (some ⟨g, o, none⟩) n cap, .slice (some ⟨g', o', none⟩) m cap'], .agg #[.string x, .string y]] w fun e w' => e = .returned (moneyV (balB n m L I x y)) ∧ Below w.heap.size w w' := by
  have T0 := three_new w #[.slice (some ⟨g, o, none⟩) n cap, .slice (some ⟨g', o', none⟩) m cap'] #[.string x, .string y] #[.int .i64 0, .int .i64 0] 26 38 43
  have HT0 : Hid (Three w (((w.alloc (.cells #[.slice (some ⟨g, o, none⟩) n cap, .slice (some ⟨g', o', none⟩) m cap'] 26)).alloc (.cells #[.string x, .string y] 38)).alloc (.cells #[.int .i64 0, .int .i64 0] 43)) #[.slice (some ⟨g, o, none⟩) n cap, .slice (some ⟨g', o', none⟩) m cap'] #[.string x, .string y] #[.int .i64 0, .int .i64 0]) := T0
  have HLy : Hid (Lay w) := hL
  have s2 : w.heap.size ≤ w.heap.size + 1 + 1 := by omega
  have HOE : Hid (∀ c, c ≠ 0 → ∀ W, Lay W → Calls Tryd.prog 49 #[.int .i64 0, .iface 106 (.agg #[.int .i64 c])] W fun e w' => e = .returned (.agg #[.int .i64 0, .int .i64 c]) ∧ Below W.heap.size W w') := fun c hc W hW => out_err 0 c hc W hW
  cases hno : (linesB n L && idsB m I)
  · have HV : Hid (balB n m L I x y = (0, 1)) := by unfold balB bookB; rw [hno]; exact rfl
    have HC := impl_ledger_no g o g' o' n m cap cap' L I hn hm hf hfi hno _ (h.below T0.bel) (h'.below T0.bel)
    have HC : Hid (Calls Tryd.prog 38 _ _ _) := HC
    clear h h' hf hfi hno T0 hL
    go_enter Tryd.func16, Tryd.ntmps16
    go_wp2_with fail
    refine HC.out.mono ?_
    rintro e w1 ⟨rfl, hb1⟩
    have T1 := HT0.out.next hb1
    have hal : Below w1.heap.size w1 (w1.alloc (.cells #[.slice none 0 0, .slice none 0 0, .map none, .complex .f64 0 0] 72)) := (Below.refl _ _).alloc (Nat.le_refl _) _
    have HT1 : Hid (Three w (w1.alloc (.cells #[.slice none 0 0, .slice none 0 0, .map none, .complex .f64 0 0] 72)) #[.slice (some ⟨g, o, none⟩) n cap, .slice (some ⟨g', o', none⟩) m cap'] #[.string x, .string y] #[.int .i64 0, .int .i64 0]) := T1.next hal
    have hst := fun (W : World) (x y : Nat) (hc : W.cell? ⟨w1.heap.size, 3, none⟩ = some (.complex .f64 0 0)) (hf : W.frozen? ⟨w1.heap.size, 3, none⟩ = false) => store_cx ⟨w1.heap.size, 3, none⟩ x y _ W hc hf
    clear hb1 HC T1 hal HT0
    go_wp2_with fail
    refine (HOE.out 1 (by omega) _ (HLy.out.below HT1.out.bel)).mono ?_
    rintro e w2 ⟨rfl, hb2⟩
    have T2 := HT1.out.next hb2
    have HB2 : Hid (Below w.heap.size w w2) := T2.bel
    have o0 := T2.out 0
    have o1 := T2.out 1
    have of := T2.ofr
    simp at o0 o1
    clear hb2 T2 HT1 hst
    go_wp2_with fail
    refine bodyPost_ret (v := moneyV (0, 1)) ?_ rfl ⟨by rw [HV.out], ?_⟩
    · simp [results, Tryd.results16, go_sem, o0, o1, moneyV]
    · exact (HB2.out.setCell s2 _).setCell s2 _
  · have hA : linesB n L = true := by cases hl : linesB n L; · rw [hl] at hno; cases hno
                                      · rfl
    have hJ : idsB m I = true := by rw [hA] at hno; exact hno
    obtain ⟨_, hok⟩ := (linesB_iff n L).1 hA
    have HC := impl_ledger_ok g o g' o' n m cap cap' L I hf hfi hA hJ _ (h.below T0.bel) (h'.below T0.bel)
    have HC : Hid (Calls Tryd.prog 38 _ _ _) := HC
    have HV : Hid (balB n m L I x y = if (sumL L n == 0) = true then (match findB L x y n with
      | some i => (((L i).m, 0) : Int × Int)
      | none => (0, 8)) else (0, 1)) := by unfold balB bookB; rw [hno]; exact rfl
    have HOK : Hid ((∀ j, j < n → okLine L j = true) ∧ ∀ i, i < n → (L i).fits) := ⟨hok, hf⟩
    clear h h' hf hfi hno hA hJ T0 hL hok
    go_enter Tryd.func16, Tryd.ntmps16
    go_wp2_with fail
    refine HC.out.mono ?_
    rintro e w1 ⟨a1, c1, a2, c2, M, fr, fi, er, rfl, her, hmp, hla, hb1⟩
    have T1 := HT0.out.next hb1
    have hal : Below w1.heap.size w1 (w1.alloc (.cells #[.slice a1 n c1, .slice a2 m c2, .map (some M), .complex .f64 fr fi] 72)) := (Below.refl _ _).alloc (Nat.le_refl _) _
    have HT1 : Hid (Three w (w1.alloc (.cells #[.slice a1 n c1, .slice a2 m c2, .map (some M), .complex .f64 fr fi] 72)) #[.slice (some ⟨g, o, none⟩) n cap, .slice (some ⟨g', o', none⟩) m cap'] #[.string x, .string y] #[.int .i64 0, .int .i64 0]) := T1.next hal
    have HMP : Hid ((w1.alloc (.cells #[.slice a1 n c1, .slice a2 m c2, .map (some M), .complex .f64 fr fi] 72)).ownsMap Tryd.prog 38 (plainElem Tryd.prog 3) M n (placesD L n)) := hmp.alloc _
    have HLA : Hid (LinesAt (w1.alloc (.cells #[.slice a1 n c1, .slice a2 m c2, .map (some M), .complex .f64 fr fi] 72)) a1 n L) := hla.below hal
    have HLD : Hid (Led (w1.alloc (.cells #[.slice a1 n c1, .slice a2 m c2, .map (some M), .complex .f64 fr fi] 72)) w1.heap.size (.slice a1 n c1) (.slice a2 m c2) (.map (some M)) (.complex .f64 fr fi)) := ⟨by simp, by simp, by simp, by simp, fun j => fnew' rfl j, by simp⟩
    have hst := fun (W : World) (x y : Nat) (hc : W.cell? ⟨w1.heap.size, 3, none⟩ = some (.complex .f64 0 0)) (hf : W.frozen? ⟨w1.heap.size, 3, none⟩ = false) => store_cx ⟨w1.heap.size, 3, none⟩ x y _ W hc hf
    have r0 := T1.res 0
    have r1 := T1.res 1
    simp at r0 r1
    have n0 : w.heap.size + 1 < w1.heap.size := by have := T1.size; omega
    have n1 : w1.heap.size ≠ w.heap.size + 1 := by omega
    clear hb1 HC T1 hal HT0 hmp hla
    rcases her with ⟨rfl, hs⟩ | ⟨rfl, hs⟩
    · rw [hs] at HV
      have HV : Hid (balB n m L I x y = (match findB L x y n with
        | some i => (((L i).m, 0) : Int × Int)
        | none => (0, 8))) := HV.out
      have HBA0 := impl_balance w1.heap.size a1 n c1 M _ _ L HOK.out.1 HOK.out.2 x y hx hy _ HLD.out HMP.out HLA.out
      cases hfb : findB L x y n with
      | none =>
        rw [hfb] at HBA0 HV
        have HBA : Hid (Calls Tryd.prog 50 _ _ _) := HBA0
        clear HBA0
        have HV' : Hid (balB n m L I x y = (0, 8)) := HV.out
        clear hfb hs HV
        go_wp2_with fail
        refine HBA.out.mono ?_
        rintro e w2 ⟨rfl, hb2⟩
        have HT2 : Hid (Three w w2 #[.slice (some ⟨g, o, none⟩) n cap, .slice (some ⟨g', o', none⟩) m cap'] #[.string x, .string y] #[.int .i64 0, .int .i64 0]) := HT1.out.next hb2
        clear hb2 HT1 HBA r0 r1
        simp only [errV]
        go_wp2_with fail
        refine (HOE.out 8 (by omega) _ (HLy.out.below HT2.out.bel)).mono ?_
        rintro e w3 ⟨rfl, hb3⟩
        have T3 := HT2.out.next hb3
        have HB3 : Hid (Below w.heap.size w w3) := T3.bel
        have o0 := T3.out 0
        have o1 := T3.out 1
        have of := T3.ofr
        simp at o0 o1
        clear hb3 T3 HT2 hst
        go_wp2_with fail
        refine bodyPost_ret (v := moneyV (0, 8)) ?_ rfl ⟨by rw [HV'.out], ?_⟩
        · simp [results, Tryd.results16, go_sem, o0, o1, moneyV]
        · exact (HB3.out.setCell s2 _).setCell s2 _
      | some i =>
        rw [hfb] at HBA0 HV
        have HV' : Hid (balB n m L I x y = ((L i).m, 0)) := HV.out
        have HOO : Hid (∀ W, Calls Tryd.prog 49 #[.int .i64 (L i).m, .nilIface] W fun e w' => e = .returned (.agg #[.int .i64 (L i).m, .int .i64 0]) ∧ Below W.heap.size W w') := fun W => out_ok _ W
        have HBA : Hid (Calls Tryd.prog 50 _ _ _) := HBA0
        clear HBA0
        clear hfb hs HV
        go_wp2_with fail
        refine HBA.out.mono ?_
        rintro e w2 ⟨rfl, hb2⟩
        have HT2 : Hid (Three w w2 #[.slice (some ⟨g, o, none⟩) n cap, .slice (some ⟨g', o', none⟩) m cap'] #[.string x, .string y] #[.int .i64 0, .int .i64 0]) := HT1.out.next hb2
        clear hb2 HT1 HBA r0 r1
        go_wp2_with fail
        refine (HOO.out _).mono ?_
        rintro e w3 ⟨rfl, hb3⟩
        have T3 := HT2.out.next hb3
        have HB3 : Hid (Below w.heap.size w w3) := T3.bel
        have o0 := T3.out 0
        have o1 := T3.out 1
        have of := T3.ofr
        simp at o0 o1
        clear hb3 T3 HT2 hst
        go_wp2_with fail
        refine bodyPost_ret (v := moneyV ((L i).m, 0)) ?_ rfl ⟨by rw [HV'.out], ?_⟩
        · simp [results, Tryd.results16, go_sem, o0, o1, moneyV]
        · exact (HB3.out.setCell s2 _).setCell s2 _
    · have hz : (sumL L n == 0) = false := beq_eq_false_iff_ne.2 hs
      rw [hz] at HV
      have HV' : Hid (balB n m L I x y = (0, 1)) := HV.out
      clear hs hz HV r0 r1
      go_wp2_with fail
      refine (HOE.out 1 (by omega) _ (HLy.out.below HT1.out.bel)).mono ?_
      rintro e w2 ⟨rfl, hb2⟩
      have T2 := HT1.out.next hb2
      have HB2 : Hid (Below w.heap.size w w2) := T2.bel
      have o0 := T2.out 0
      have o1 := T2.out 1
      have of := T2.ofr
      simp at o0 o1
      clear hb2 T2 HT1 hst
      go_wp2_with fail
      refine bodyPost_ret (v := moneyV (0, 1)) ?_ rfl ⟨by rw [HV'.out], ?_⟩
      · simp [results, Tryd.results16, go_sem, o0, o1, moneyV]
      · exact (HB2.out.setCell s2 _).setCell s2 _
end Go.Proofs.YtpabdapaegllnaaDoor
