/- A line opened: what the model's face does. -/
import Derived.Test.YtpabdapaegllnaaDoorBkT2
namespace Go.Proofs.YtpabdapaegllnaaDoor
open Go.RowKit
open Go.Proofs.YtpabdapaegllnaaDoor.Draw

set_option maxRecDepth 100000 in
set_option maxHeartbeats 8000000 in
theorem spec_bookOpen (g g' n m : Nat) (L : Nat → Ln) (I : Nat → Tx) (hn : n ≤ 1048576) (hm : m ≤ 1048576) (hf : ∀ i, i < n → (L i).fits) (hfi : ∀ i, i < m → (I i).fits) (x y : ByteArray) (hx : x.size ≤ maxLen) (hy : y.size ≤ maxLen) (k : Nat) (hk : linesB n L = true → IsPlace L x y n k) (w : World) (h : LinesAt w (some ⟨g, 0, none⟩) n L) (h' : TextsAt w (some ⟨g', 0, none⟩) m I) :
    Calls Tryd.prog 14 #[.agg #[.slice (some ⟨g, 0, none⟩) n n, .slice (some ⟨g', 0, none⟩) m m], .agg #[.string x, .string y]] w (BkOut w (openB n m L I x y k).N (openB n m L I x y k).K (openB n m L I x y k).L I 0 (openB n m L I x y k).cd) := by
  have T0 := three_new w #[.slice (some ⟨g, 0, none⟩) n n, .slice (some ⟨g', 0, none⟩) m m] #[.string x, .string y] #[.slice none 0 0, .slice none 0 0, .int .i64 0, .int .i64 0] 26 38 31
  have HT0 : Hid (Three w (((w.alloc (.cells #[.slice (some ⟨g, 0, none⟩) n n, .slice (some ⟨g', 0, none⟩) m m] 26)).alloc (.cells #[.string x, .string y] 38)).alloc (.cells #[.slice none 0 0, .slice none 0 0, .int .i64 0, .int .i64 0] 31)) #[.slice (some ⟨g, 0, none⟩) n n, .slice (some ⟨g', 0, none⟩) m m] #[.string x, .string y] #[.slice none 0 0, .slice none 0 0, .int .i64 0, .int .i64 0]) := T0
  have s2 : w.heap.size ≤ w.heap.size + 1 + 1 := by omega
  have HBR := spec_bookRight (some ⟨g, 0, none⟩) (some ⟨g', 0, none⟩) n m n m L I hn hm hf hfi (((w.alloc (.cells #[.slice (some ⟨g, 0, none⟩) n n, .slice (some ⟨g', 0, none⟩) m m] 26)).alloc (.cells #[.string x, .string y] 38)).alloc (.cells #[.slice none 0 0, .slice none 0 0, .int .i64 0, .int .i64 0] 31)) (h.below T0.bel) (h'.below T0.bel)
  have HSN : Hid (∀ W, Calls Tryd.prog 43 #[.agg #[.string x, .string y]] W fun e w' => e = .returned (.bool (nameB x && nameB y)) ∧ Below W.heap.size W w') := fun W => spec_names x y hx hy W
  cases hbk : bookB n m L I with
  | false =>
    have HV : Hid (openB n m L I x y k = ⟨0, 0, L, 1⟩) := openB_no (by rw [hbk]; rfl)
    rw [hbk] at HBR
    have HBR : Hid (Calls Tryd.prog 10 _ _ _) := HBR
    clear hbk T0 h h' hk hf hfi
    go_enter Tryd.func14, Tryd.ntmps14
    go_wp2_with fail
    refine HBR.out.mono ?_
    rintro e w1 ⟨rfl, hb⟩
    have HT1 : Hid (Three w w1 #[.slice (some ⟨g, 0, none⟩) n n, .slice (some ⟨g', 0, none⟩) m m] #[.string x, .string y] #[.slice none 0 0, .slice none 0 0, .int .i64 0, .int .i64 0]) := HT0.out.next hb
    clear hb HT0 HBR
    have o0 := HT1.out.out 0
    have o1 := HT1.out.out 1
    have o2 := HT1.out.out 2
    have o3 := HT1.out.out 3
    have of := HT1.out.ofr
    simp at o0 o1 o2 o3
    have HB9 : Hid (Below w.heap.size w _) := HT1.out.bel
    go_wp2_with fail
    refine bodyPost_ret (v := .agg #[.slice none 0 0, .slice none 0 0, .int .i64 0, .int .i64 1]) ?_ rfl ?_
    · simp [results, Tryd.results14, go_sem, o0, o1, o2, o3]
    · rw [HV.out]
      exact BkOut.err ((((HB9.out.setCell s2 _).setCell s2 _).setCell s2 _).setCell s2 _)
  | true =>
    rw [hbk] at HBR
    have HBR : Hid (Calls Tryd.prog 10 _ _ _) := HBR
    have hbk' := hbk
    unfold bookB at hbk'
    simp only [Bool.and_eq_true] at hbk'
    obtain ⟨⟨hA, hJ⟩, _⟩ := hbk'
    obtain ⟨hn60, hok⟩ := (linesB_iff n L).1 hA
    obtain ⟨hm100, _⟩ := (idsB_iff m I).1 hJ
    have hp := hk hA
    cases hnm : (nameB x && nameB y) with
    | false =>
      have HV : Hid (openB n m L I x y k = ⟨0, 0, L, 1⟩) := openB_no (by rw [hnm]; simp)
      rw [hnm] at HSN
      clear hbk T0 h h' hk hf hfi hp hok hA hJ
      go_enter Tryd.func14, Tryd.ntmps14
      go_wp2_with fail
      refine HBR.out.mono ?_
      rintro e w1 ⟨rfl, hb⟩
      have HT1 : Hid (Three w w1 #[.slice (some ⟨g, 0, none⟩) n n, .slice (some ⟨g', 0, none⟩) m m] #[.string x, .string y] #[.slice none 0 0, .slice none 0 0, .int .i64 0, .int .i64 0]) := HT0.out.next hb
      have p0 := HT1.out.res 0
      have p1 := HT1.out.res 1
      simp at p0 p1
      clear hb HT0 HBR
      go_wp2_with fail
      refine (HSN.out _).mono ?_
      rintro e w2 ⟨rfl, hb⟩
      have HT2 : Hid (Three w w2 #[.slice (some ⟨g, 0, none⟩) n n, .slice (some ⟨g', 0, none⟩) m m] #[.string x, .string y] #[.slice none 0 0, .slice none 0 0, .int .i64 0, .int .i64 0]) := HT1.out.next hb
      clear hb HT1 HSN p0 p1
      have o0 := HT2.out.out 0
      have o1 := HT2.out.out 1
      have o2 := HT2.out.out 2
      have o3 := HT2.out.out 3
      have of := HT2.out.ofr
      simp at o0 o1 o2 o3
      have HB9 : Hid (Below w.heap.size w _) := HT2.out.bel
      go_wp2_with fail
      refine bodyPost_ret (v := .agg #[.slice none 0 0, .slice none 0 0, .int .i64 0, .int .i64 1]) ?_ rfl ?_
      · simp [results, Tryd.results14, go_sem, o0, o1, o2, o3]
      · rw [HV.out]
        exact BkOut.err ((((HB9.out.setCell s2 _).setCell s2 _).setCell s2 _).setCell s2 _)
    | true =>
      have hyes : (bookB n m L I && (nameB x && nameB y)) = true := by rw [hbk, hnm]; rfl
      have HOP : Hid (∀ W, Below w.heap.size w W → Calls Tryd.prog 47 #[.agg #[.slice (some ⟨g, 0, none⟩) n n, .slice (some ⟨g', 0, none⟩) m m], .agg #[.string x, .string y]] W (BkOut W (openB n m L I x y k).N (openB n m L I x y k).K (openB n m L I x y k).L I 0 (openB n m L I x y k).cd)) := fun W hW => by
        cases hfb : findB L x y n with
        | some i => rw [openB_7 hyes hfb]; exact spec_open_no g g' n m L I hn60 x y W (h.below hW) 7 (Or.inl ⟨⟨i, hfb⟩, rfl⟩)
        | none =>
          by_cases h60 : 60 ≤ n
          · rw [openB_16 hyes hfb h60]; exact spec_open_no g g' n m L I hn60 x y W (h.below hW) 16 (Or.inr ⟨hfb, h60, rfl⟩)
          · rw [openB_ok hyes hfb (by omega)]; exact spec_open_ok g g' n m L I (by omega) hm100 x y k hp hfb W (h.below hW) (h'.below hW)
      rw [hnm] at HSN
      generalize openB n m L I x y k = Z at *
      obtain ⟨zN, zK, zL, zc⟩ := Z
      simp only at HOP ⊢
      clear hbk T0 h h' hk hf hfi hp hok hA hJ hyes
      go_enter Tryd.func14, Tryd.ntmps14
      go_wp2_with fail
      refine HBR.out.mono ?_
      rintro e w1 ⟨rfl, hb⟩
      have HT1 : Hid (Three w w1 #[.slice (some ⟨g, 0, none⟩) n n, .slice (some ⟨g', 0, none⟩) m m] #[.string x, .string y] #[.slice none 0 0, .slice none 0 0, .int .i64 0, .int .i64 0]) := HT0.out.next hb
      have p0 := HT1.out.res 0
      have p1 := HT1.out.res 1
      simp at p0 p1
      clear hb HT0 HBR
      go_wp2_with fail
      refine (HSN.out _).mono ?_
      rintro e w2 ⟨rfl, hb⟩
      have HT2 : Hid (Three w w2 #[.slice (some ⟨g, 0, none⟩) n n, .slice (some ⟨g', 0, none⟩) m m] #[.string x, .string y] #[.slice none 0 0, .slice none 0 0, .int .i64 0, .int .i64 0]) := HT1.out.next hb
      clear hb HT1 HSN p0 p1
      have p0 := HT2.out.res 0
      have p1 := HT2.out.res 1
      have b0 := HT2.out.box 0
      have b1 := HT2.out.box 1
      simp at p0 p1 b0 b1
      go_wp2_with fail
      refine (HOP.out _ HT2.out.bel).mono ?_
      rintro e w3 ⟨a, c, b, d, rfl, oa, ob, la, lb, nab, hb⟩
      have T3 := HT2.out.next hb
      have o0 := T3.out 0
      have o1 := T3.out 1
      have o2 := T3.out 2
      have o3 := T3.out 3
      have of := T3.ofr
      simp at o0 o1 o2 o3
      have hs2 := HT2.out.size
      have HB9 : Hid (Below w.heap.size w w3) := T3.bel
      have q1 : ∀ j, a.map Addr.block = some j → j ≠ w.heap.size + 1 + 1 := fun j e => by have := (la j e).1; omega
      have q2 : ∀ j, b.map Addr.block = some j → j ≠ w.heap.size + 1 + 1 := fun j e => by have := (lb j e).1; omega
      have HP : Hid (BkOut w zN zK zL I 0 zc (.returned (.agg #[.slice a zN c, .slice b zK d, .int .i64 0, .int .i64 zc])) ((((w3.setCell ⟨w.heap.size + 1 + 1, 0, none⟩ (.slice a zN c)).setCell ⟨w.heap.size + 1 + 1, 1, none⟩ (.slice b zK d)).setCell ⟨w.heap.size + 1 + 1, 2, none⟩ (.int .i64 0)).setCell ⟨w.heap.size + 1 + 1, 3, none⟩ (.int .i64 zc))) :=
        ⟨a, c, b, d, rfl, (((oa.set4 q1).set4 q1).set4 q1).set4 q1, (((ob.set4 q2).set4 q2).set4 q2).set4 q2, fun j e => by have := la j e; simp; omega, fun j e => by have := lb j e; simp; omega, nab, (((HB9.out.setCell s2 _).setCell s2 _).setCell s2 _).setCell s2 _⟩
      clear hb T3 HT2 oa ob la lb nab q1 q2 HOP p0 p1 b0 b1
      go_wp2_with fail
      refine bodyPost_ret (v := .agg #[.slice a zN c, .slice b zK d, .int .i64 0, .int .i64 zc]) ?_ rfl HP.out
      simp [results, Tryd.results14, go_sem, o0, o1, o2, o3]
end Go.Proofs.YtpabdapaegllnaaDoor
