/- A line opened (impl.BookOpen): what the call does. -/
import Derived.Test.YtpabdapaegllnaaDoorBkQ1
namespace Go.Proofs.YtpabdapaegllnaaDoor
open Go.RowKit
open Go.Proofs.YtpabdapaegllnaaDoor.Draw

theorem Three.low {w W W' : World} {cs rs os : Array Value} (h : Three w W cs rs os) (hb : Below (w.heap.size + 3) W W') : Three w W' cs rs os := by
  have hs := h.size
  have hk0 : W'.heap[w.heap.size]? = W.heap[w.heap.size]? := hb.block _ (by omega)
  have hk1 : W'.heap[w.heap.size + 1]? = W.heap[w.heap.size + 1]? := hb.block _ (by omega)
  have hk2 : W'.heap[w.heap.size + 1 + 1]? = W.heap[w.heap.size + 1 + 1]? := hb.block _ (by omega)
  exact ⟨fun j => (World.cell?_of_block (a := ⟨w.heap.size, j, none⟩) hk0).trans (h.box j), fun j => (World.cell?_of_block (a := ⟨w.heap.size + 1, j, none⟩) hk1).trans (h.res j), fun j => (World.cell?_of_block (a := ⟨w.heap.size + 1 + 1, j, none⟩) hk2).trans (h.out j),
    fun j => (World.frozen?_of_block (a := ⟨w.heap.size + 1, j, none⟩) hk1).trans (h.rfr j), fun j => (World.frozen?_of_block (a := ⟨w.heap.size + 1 + 1, j, none⟩) hk2).trans (h.ofr j), Nat.le_trans hs hb.size, h.bel.trans (hb.mono (by omega))⟩
theorem own_linesR {w : World} {B n c : Nat} {a : Option Addr} {L : Nat → Ln} (h : w.ownsRow B 46 3 (.slice a n c) n (linesC L n)) : OwnR w a n 3 (lineF L) := by
  rcases id h with ⟨_, ⟨e, e2⟩ | ⟨g, cap, cur, e, _⟩⟩
  · exact Or.inl e2
  · simp at e
    obtain ⟨rfl, rfl⟩ := e
    exact Or.inr ⟨g, rfl, (own_row h (fun j hj => linesC_at L n j hj)).1⟩
theorem own_textsR {w : World} {B n c : Nat} {a : Option Addr} {I : Nat → Tx} (h : w.ownsRow B 9 1 (.slice a n c) n (textsC I n)) : OwnR w a n 1 (textF I) := by
  obtain ⟨a', cap, e, hO, _⟩ := own_texts h
  simp at e
  rw [e.1]
  exact hO
theorem OwnR.set4 {w : World} {a : Option Addr} {n c b j : Nat} {F : Nat → Value} {u : Value} (h : OwnR w a n c F) (hne : ∀ k, a.map Addr.block = some k → k ≠ b) : OwnR (w.setCell ⟨b, j, none⟩ u) a n c F := h.grown (setGrown (World.grownBy.refl _ _)) (fun k e => by simpa using hne k e)
set_option maxRecDepth 100000 in
set_option maxHeartbeats 8000000 in
theorem impl_bookOpen (g o g' o' n m cap cap' : Nat) (L : Nat → Ln) (I : Nat → Tx) (hn : n ≤ 1048576) (hm : m ≤ 1048576) (hf : ∀ i, i < n → (L i).fits) (hfi : ∀ i, i < m → (I i).fits) (x y : ByteArray) (hx : x.size ≤ maxLen) (hy : y.size ≤ maxLen) (k : Nat) (hk : linesB n L = true → IsPlace L x y n k) (w : World) (hL : Lay w) (h : LinesAt w (some ⟨g, o, none⟩) n L) (h' : TextsAt w (some ⟨g', o', none⟩) m I) :
    Calls Tryd.prog 15 #[.agg #[.slice (some ⟨g, o, none⟩) n cap, .slice (some ⟨g', o', none⟩) m cap'], .agg #[.string x, .string y]] w (BkOut w (openB n m L I x y k).N (openB n m L I x y k).K (openB n m L I x y k).L I 0 (openB n m L I x y k).cd) := by
  have T0 := three_new w #[.slice (some ⟨g, o, none⟩) n cap, .slice (some ⟨g', o', none⟩) m cap'] #[.string x, .string y] #[.slice none 0 0, .slice none 0 0, .int .i64 0, .int .i64 0] 26 38 31
  have HT0 : Hid (Three w (((w.alloc (.cells #[.slice (some ⟨g, o, none⟩) n cap, .slice (some ⟨g', o', none⟩) m cap'] 26)).alloc (.cells #[.string x, .string y] 38)).alloc (.cells #[.slice none 0 0, .slice none 0 0, .int .i64 0, .int .i64 0] 31)) #[.slice (some ⟨g, o, none⟩) n cap, .slice (some ⟨g', o', none⟩) m cap'] #[.string x, .string y] #[.slice none 0 0, .slice none 0 0, .int .i64 0, .int .i64 0]) := T0
  have HLy : Hid (Lay w) := hL
  have s2 : w.heap.size ≤ w.heap.size + 1 + 1 := by omega
  have HOE : Hid (∀ c, c ≠ 0 → ∀ (a : Option Addr) (n1 c1 : Nat) (b : Option Addr) (m1 d1 : Nat) W, Lay W → Calls Tryd.prog 40 #[.agg #[.slice a n1 c1, .slice b m1 d1], .int .i64 0, .iface 106 (.agg #[.int .i64 c])] W fun e w' => e = .returned (.agg #[.slice none 0 0, .slice none 0 0, .int .i64 0, .int .i64 c]) ∧ Below W.heap.size W w') := fun c hc a n1 c1 b m1 d1 W hW => bout_err a n1 c1 b m1 d1 0 c hc W hW
  cases hno : (linesB n L && idsB m I)
  · have HV : Hid (openB n m L I x y k = ⟨0, 0, L, 1⟩) := openB_no (by unfold bookB; rw [hno]; rfl)
    have HC := impl_ledger_no g o g' o' n m cap cap' L I hn hm hf hfi hno _ (h.below T0.bel) (h'.below T0.bel)
    have HC : Hid (Calls Tryd.prog 38 _ _ _) := HC
    clear h h' hf hfi hno T0 hL hk
    go_enter Tryd.func15, Tryd.ntmps15
    go_wp2_with fail
    refine HC.out.mono ?_
    rintro e w1 ⟨rfl, hb1⟩
    have T1 := HT0.out.next hb1
    have hal : Below w1.heap.size w1 (w1.alloc (.cells #[.slice none 0 0, .slice none 0 0, .map none, .complex .f64 0 0] 72)) := (Below.refl _ _).alloc (Nat.le_refl _) _
    have HT1 : Hid (Three w (w1.alloc (.cells #[.slice none 0 0, .slice none 0 0, .map none, .complex .f64 0 0] 72)) #[.slice (some ⟨g, o, none⟩) n cap, .slice (some ⟨g', o', none⟩) m cap'] #[.string x, .string y] #[.slice none 0 0, .slice none 0 0, .int .i64 0, .int .i64 0]) := T1.next hal
    have hst := fun (W : World) (x y : Nat) (hc : W.cell? ⟨w1.heap.size, 3, none⟩ = some (.complex .f64 0 0)) (hf : W.frozen? ⟨w1.heap.size, 3, none⟩ = false) => store_cx ⟨w1.heap.size, 3, none⟩ x y _ W hc hf
    clear hb1 HC T1 hal HT0
    go_wp2_with fail
    refine (HOE.out 1 (by omega) _ _ _ _ _ _ _ (HLy.out.below HT1.out.bel)).mono ?_
    rintro e w9 ⟨rfl, hb9⟩
    have T9 := HT1.out.next hb9
    have HB9 : Hid (Below w.heap.size w w9) := T9.bel
    have o0 := T9.out 0
    have o1 := T9.out 1
    have o2 := T9.out 2
    have o3 := T9.out 3
    have of := T9.ofr
    simp at o0 o1 o2 o3
    clear hb9 T9
    go_wp2_with fail
    refine bodyPost_ret (v := .agg #[.slice none 0 0, .slice none 0 0, .int .i64 0, .int .i64 1]) ?_ rfl ?_
    · simp [results, Tryd.results15, go_sem, o0, o1, o2, o3]
    · rw [HV.out]
      exact BkOut.err ((((HB9.out.setCell s2 _).setCell s2 _).setCell s2 _).setCell s2 _)
  · have hA : linesB n L = true := by cases hl : linesB n L; · rw [hl] at hno; cases hno
                                      · rfl
    have hJ : idsB m I = true := by rw [hA] at hno; exact hno
    obtain ⟨hn60, hok⟩ := (linesB_iff n L).1 hA
    have hp := hk hA
    have HC := impl_ledger_own g o g' o' n m cap cap' L I hf hfi hA hJ _ (h.below T0.bel) (h'.below T0.bel)
    have HC : Hid (Calls Tryd.prog 38 _ _ _) := HC
    have hsz3 : (((w.alloc (.cells #[.slice (some ⟨g, o, none⟩) n cap, .slice (some ⟨g', o', none⟩) m cap'] 26)).alloc (.cells #[.string x, .string y] 38)).alloc (.cells #[.slice none 0 0, .slice none 0 0, .int .i64 0, .int .i64 0] 31)).heap.size = w.heap.size + 3 := by simp
    clear h h' hfi hL hk T0
    go_enter Tryd.func15, Tryd.ntmps15
    go_wp2_with fail
    refine HC.out.mono ?_
    rintro e w1 ⟨a1, c1, a2, c2, M, fr, fi, er, rfl, her, hmp, hla, hb1, hrr, _, _⟩
    have T1 := HT0.out.next hb1
    rw [hsz3] at hrr
    have hal : Below w1.heap.size w1 (w1.alloc (.cells #[.slice a1 n c1, .slice a2 m c2, .map (some M), .complex .f64 fr fi] 72)) := (Below.refl _ _).alloc (Nat.le_refl _) _
    have HT1 : Hid (Three w (w1.alloc (.cells #[.slice a1 n c1, .slice a2 m c2, .map (some M), .complex .f64 fr fi] 72)) #[.slice (some ⟨g, o, none⟩) n cap, .slice (some ⟨g', o', none⟩) m cap'] #[.string x, .string y] #[.slice none 0 0, .slice none 0 0, .int .i64 0, .int .i64 0]) := T1.next hal
    have HMP : Hid ((w1.alloc (.cells #[.slice a1 n c1, .slice a2 m c2, .map (some M), .complex .f64 fr fi] 72)).ownsMap Tryd.prog 38 (plainElem Tryd.prog 3) M n (placesD L n)) := hmp.alloc _
    have HRR : Hid (Rows2 (w1.alloc (.cells #[.slice a1 n c1, .slice a2 m c2, .map (some M), .complex .f64 fr fi] 72)) (w.heap.size + 3) a1 n c1 L a2 m c2 I) := hrr.below hal
    have HLD : Hid (Led (w1.alloc (.cells #[.slice a1 n c1, .slice a2 m c2, .map (some M), .complex .f64 fr fi] 72)) w1.heap.size (.slice a1 n c1) (.slice a2 m c2) (.map (some M)) (.complex .f64 fr fi)) := ⟨by simp, by simp, by simp, by simp, fun j => fnew' rfl j, by simp⟩
    have hst := fun (W : World) (x y : Nat) (hc : W.cell? ⟨w1.heap.size, 3, none⟩ = some (.complex .f64 0 0)) (hf : W.frozen? ⟨w1.heap.size, 3, none⟩ = false) => store_cx ⟨w1.heap.size, 3, none⟩ x y _ W hc hf
    have HNA : Hid ((∀ k, a1.map Addr.block = some k → k ≠ w1.heap.size) ∧ ∀ k, a2.map Addr.block = some k → k ≠ w1.heap.size) := ⟨fun k e => by have := hrr.lt1 k e; omega, fun k e => by have := hrr.lt2 k e; omega⟩
    have r0 := T1.res 0
    have r1 := T1.res 1
    simp at r0 r1
    have n0 : w.heap.size + 3 ≤ w1.heap.size := T1.size
    have n1 : w1.heap.size ≠ w.heap.size + 1 := by omega
    have n2 : w.heap.size + 1 < w1.heap.size := by omega
    clear hb1 HC T1 hal HT0 hmp hla hrr
    rcases her with ⟨rfl, hs⟩ | ⟨rfl, hs⟩
    · cases hnm : (nameB x && nameB y) with
      | false =>
        have HV : Hid (openB n m L I x y k = ⟨0, 0, L, 1⟩) := openB_no (by rw [hnm]; simp)
        have HOP : Hid (Calls Tryd.prog 48 _ _ _) := open_no1 w1.heap.size x y hx hy hnm (w1.alloc (.cells #[.slice a1 n c1, .slice a2 m c2, .map (some M), .complex .f64 fr fi] 72))
        clear hok hf hp HMP HRR HNA
        go_wp2_with fail
        refine HOP.out.mono ?_
        rintro e w2 ⟨rfl, hb2⟩
        have HT2 : Hid (Three w w2 #[.slice (some ⟨g, o, none⟩) n cap, .slice (some ⟨g', o', none⟩) m cap'] #[.string x, .string y] #[.slice none 0 0, .slice none 0 0, .int .i64 0, .int .i64 0]) := HT1.out.next hb2
        obtain ⟨d0, d1, d2, d3, df, dlt⟩ := HLD.out.below hb2
        clear hb2 HT1 HOP r0 r1 hst HLD
        simp only [errV]
        go_wp2_with fail
        refine (HOE.out 1 (by omega) _ _ _ _ _ _ _ (HLy.out.below HT2.out.bel)).mono ?_
        rintro e w9 ⟨rfl, hb9⟩
        have T9 := HT2.out.next hb9
        have HB9 : Hid (Below w.heap.size w w9) := T9.bel
        have o0 := T9.out 0
        have o1 := T9.out 1
        have o2 := T9.out 2
        have o3 := T9.out 3
        have of := T9.ofr
        simp at o0 o1 o2 o3
        clear hb9 T9
        go_wp2_with fail
        refine bodyPost_ret (v := .agg #[.slice none 0 0, .slice none 0 0, .int .i64 0, .int .i64 1]) ?_ rfl ?_
        · simp [results, Tryd.results15, go_sem, o0, o1, o2, o3]
        · rw [HV.out]
          exact BkOut.err ((((HB9.out.setCell s2 _).setCell s2 _).setCell s2 _).setCell s2 _)
      | true =>
        have hyes : (bookB n m L I && (nameB x && nameB y)) = true := by rw [hnm]; unfold bookB; rw [hno, hs]; rfl
        cases hfb : findB L x y n with
        | some i =>
          have HV : Hid (openB n m L I x y k = ⟨0, 0, L, 7⟩) := openB_7 hyes hfb
          have HOP : Hid (Calls Tryd.prog 48 _ _ _) := open_no7 w1.heap.size a1 n c1 _ _ M L x y hx hy hnm hok hf i hfb (w1.alloc (.cells #[.slice a1 n c1, .slice a2 m c2, .map (some M), .complex .f64 fr fi] 72)) HLD.out HMP.out
          clear hok hf hp HMP HRR HNA
          go_wp2_with fail
          refine HOP.out.mono ?_
          rintro e w2 ⟨rfl, hb2⟩
          have HT2 : Hid (Three w w2 #[.slice (some ⟨g, o, none⟩) n cap, .slice (some ⟨g', o', none⟩) m cap'] #[.string x, .string y] #[.slice none 0 0, .slice none 0 0, .int .i64 0, .int .i64 0]) := HT1.out.next hb2
          obtain ⟨d0, d1, d2, d3, df, dlt⟩ := HLD.out.below hb2
          clear hb2 HT1 HOP r0 r1 hst HLD
          simp only [errV]
          go_wp2_with fail
          refine (HOE.out 7 (by omega) _ _ _ _ _ _ _ (HLy.out.below HT2.out.bel)).mono ?_
          rintro e w9 ⟨rfl, hb9⟩
          have T9 := HT2.out.next hb9
          have HB9 : Hid (Below w.heap.size w w9) := T9.bel
          have o0 := T9.out 0
          have o1 := T9.out 1
          have o2 := T9.out 2
          have o3 := T9.out 3
          have of := T9.ofr
          simp at o0 o1 o2 o3
          clear hb9 T9
          go_wp2_with fail
          refine bodyPost_ret (v := .agg #[.slice none 0 0, .slice none 0 0, .int .i64 0, .int .i64 7]) ?_ rfl ?_
          · simp [results, Tryd.results15, go_sem, o0, o1, o2, o3]
          · rw [HV.out]
            exact BkOut.err ((((HB9.out.setCell s2 _).setCell s2 _).setCell s2 _).setCell s2 _)
        | none =>
          by_cases h60 : 60 ≤ n
          · have HV : Hid (openB n m L I x y k = ⟨0, 0, L, 16⟩) := openB_16 hyes hfb h60
            have HOP : Hid (Calls Tryd.prog 48 _ _ _) := open_no16 w1.heap.size a1 n c1 _ _ M L x y hx hy hnm hok hf hfb h60 (w1.alloc (.cells #[.slice a1 n c1, .slice a2 m c2, .map (some M), .complex .f64 fr fi] 72)) HLD.out HMP.out
            clear hok hf hp HMP HRR HNA
            go_wp2_with fail
            refine HOP.out.mono ?_
            rintro e w2 ⟨rfl, hb2⟩
            have HT2 : Hid (Three w w2 #[.slice (some ⟨g, o, none⟩) n cap, .slice (some ⟨g', o', none⟩) m cap'] #[.string x, .string y] #[.slice none 0 0, .slice none 0 0, .int .i64 0, .int .i64 0]) := HT1.out.next hb2
            obtain ⟨d0, d1, d2, d3, df, dlt⟩ := HLD.out.below hb2
            clear hb2 HT1 HOP r0 r1 hst HLD
            simp only [errV]
            go_wp2_with fail
            refine (HOE.out 16 (by omega) _ _ _ _ _ _ _ (HLy.out.below HT2.out.bel)).mono ?_
            rintro e w9 ⟨rfl, hb9⟩
            have T9 := HT2.out.next hb9
            have HB9 : Hid (Below w.heap.size w w9) := T9.bel
            have o0 := T9.out 0
            have o1 := T9.out 1
            have o2 := T9.out 2
            have o3 := T9.out 3
            have of := T9.ofr
            simp at o0 o1 o2 o3
            clear hb9 T9
            go_wp2_with fail
            refine bodyPost_ret (v := .agg #[.slice none 0 0, .slice none 0 0, .int .i64 0, .int .i64 16]) ?_ rfl ?_
            · simp [results, Tryd.results15, go_sem, o0, o1, o2, o3]
            · rw [HV.out]
              exact BkOut.err ((((HB9.out.setCell s2 _).setCell s2 _).setCell s2 _).setCell s2 _)
          · have HV : Hid (openB n m L I x y k = ⟨n + 1, m, insL L k x y, 0⟩) := openB_ok hyes hfb (by omega)
            have HOP : Hid (Calls Tryd.prog 48 _ _ _) := open_ok w1.heap.size a1 n c1 a2 m c2 _ M L I x y hx hy k (w.heap.size + 3) hnm hok hf hfb (by omega) hp (w1.alloc (.cells #[.slice a1 n c1, .slice a2 m c2, .map (some M), .complex .f64 fr fi] 72)) n0 HLD.out HMP.out HRR.out HNA.out.1 HNA.out.2
            have HOO : Hid (∀ (a : Option Addr) (n1 c1 : Nat) (b : Option Addr) (m1 d1 : Nat) W, Calls Tryd.prog 40 #[.agg #[.slice a n1 c1, .slice b m1 d1], .int .i64 0, .nilIface] W fun e w' => e = .returned (.agg #[.slice a n1 c1, .slice b m1 d1, .int .i64 0, .int .i64 0]) ∧ Below W.heap.size W w') := fun a n1 c1 b m1 d1 W => bout_ok a n1 c1 b m1 d1 0 W
            clear hok hf hp HMP HRR HNA HLD
            go_wp2_with fail
            refine HOP.out.mono ?_
            rintro e w2 ⟨rfl, ad, c', M', D2, R2, hb2⟩
            have HT2 : Hid (Three w w2 #[.slice (some ⟨g, o, none⟩) n cap, .slice (some ⟨g', o', none⟩) m cap'] #[.string x, .string y] #[.slice none 0 0, .slice none 0 0, .int .i64 0, .int .i64 0]) := HT1.out.low hb2
            have HR2 : Hid (Rows2 w2 (w.heap.size + 3) ad (n + 1) c' (insL L k x y) a2 m c2 I) := R2
            obtain ⟨d0, d1, d2, d3, df, dlt⟩ := D2
            clear hb2 HT1 HOP r0 r1 hst R2
            go_wp2_with fail
            refine (HOO.out _ _ _ _ _ _ _).mono ?_
            rintro e w9 ⟨rfl, hb9⟩
            have T9 := HT2.out.next hb9
            have HB9 : Hid (Below w.heap.size w w9) := T9.bel
            have HR9 : Hid (Rows2 w9 (w.heap.size + 3) ad (n + 1) c' (insL L k x y) a2 m c2 I) := HR2.out.below hb9
            have o0 := T9.out 0
            have o1 := T9.out 1
            have o2 := T9.out 2
            have o3 := T9.out 3
            have of := T9.ofr
            simp at o0 o1 o2 o3
            clear hb9 T9 d0 d1 d2 d3 df dlt
            go_wp2_with fail
            refine bodyPost_ret (v := .agg #[.slice ad (n + 1) c', .slice a2 m c2, .int .i64 0, .int .i64 0]) ?_ rfl ?_
            · simp [results, Tryd.results15, go_sem, o0, o1, o2, o3]
            · rw [HV.out]
              have q1 : ∀ j, ad.map Addr.block = some j → j ≠ w.heap.size + 1 + 1 := fun j e => by have := (HR9.out.lt1 j e).1; omega
              have q2 : ∀ j, a2.map Addr.block = some j → j ≠ w.heap.size + 1 + 1 := fun j e => by have := (HR9.out.lt2 j e).1; omega
              exact ⟨ad, c', a2, c2, rfl, ((((own_linesR HR9.out.r1).set4 q1).set4 q1).set4 q1).set4 q1, ((((own_textsR HR9.out.r2).set4 q2).set4 q2).set4 q2).set4 q2, fun j e => by have := HR9.out.lt1 j e; simp; omega, fun j e => by have := HR9.out.lt2 j e; simp; omega, HR9.out.ne, (((HB9.out.setCell s2 _).setCell s2 _).setCell s2 _).setCell s2 _⟩
    · have hz : (sumL L n == 0) = false := beq_eq_false_iff_ne.2 hs
      have HV : Hid (openB n m L I x y k = ⟨0, 0, L, 1⟩) := openB_no (by unfold bookB; rw [hz]; simp)
      obtain ⟨d0, d1, d2, d3, df, dlt⟩ := HLD.out
      clear hs hz r0 r1 HMP HRR HNA hok hf hp
      go_wp2_with fail
      refine (HOE.out 1 (by omega) _ _ _ _ _ _ _ (HLy.out.below HT1.out.bel)).mono ?_
      rintro e w9 ⟨rfl, hb9⟩
      have T9 := HT1.out.next hb9
      have HB9 : Hid (Below w.heap.size w w9) := T9.bel
      have o0 := T9.out 0
      have o1 := T9.out 1
      have o2 := T9.out 2
      have o3 := T9.out 3
      have of := T9.ofr
      simp at o0 o1 o2 o3
      clear hb9 T9
      go_wp2_with fail
      refine bodyPost_ret (v := .agg #[.slice none 0 0, .slice none 0 0, .int .i64 0, .int .i64 1]) ?_ rfl ?_
      · simp [results, Tryd.results15, go_sem, o0, o1, o2, o3]
      · rw [HV.out]
        exact BkOut.err ((((HB9.out.setCell s2 _).setCell s2 _).setCell s2 _).setCell s2 _)
end Go.Proofs.YtpabdapaegllnaaDoor
