/- Books handed over: their sizes, copies and comparison; what makes a book right, without a program. -/
import Derived.Test.YtpabdapaegllnaaDoorLines
namespace Go.Proofs.YtpabdapaegllnaaDoor
open Go.RowKit
open Go.Proofs.YtpabdapaegllnaaDoor.Draw

set_option maxRecDepth 100000 in
set_option maxHeartbeats 4000000 in
theorem sz_book (a b : Option Addr) (n m cap cap' : Nat) (L : Nat → Ln) (I : Nat → Tx) (hn : n ≤ maxLen) (hm : m ≤ maxLen) (hf : ∀ i, i < n → (L i).fits) (hg : ∀ i, i < m → (I i).fits) (left : Nat) (hl : left ≤ 1048576) (w : World) (h : LinesAt w a n L) (h' : TextsAt w b m I) :
    Calls Tryd.prog 17 #[.agg #[.slice a n cap, .slice b m cap'], .int .i64 (left : Int)] w fun e w' => (e = .returned (.int .i64 (-1)) ∨ ∃ r : Nat, e = .returned (.int .i64 (r : Int)) ∧ r ≤ left ∧ n ≤ left ∧ m ≤ left ∧ (∀ i, i < n → (L i).small) ∧ ∀ i, i < m → (I i).small) ∧ Below w.heap.size w w' := by
  have HL : Hid (LinesAt (w.alloc (.cells #[.slice a n cap, .slice b m cap'] 49)) a n L) := h.below ((Below.refl _ _).alloc (Nat.le_refl _) _)
  have HI : Hid (TextsAt (w.alloc (.cells #[.slice a n cap, .slice b m cap'] 49)) b m I) := h'.below ((Below.refl _ _).alloc (Nat.le_refl _) _)
  have HF : Hid ((∀ i, i < n → (L i).fits) ∧ ∀ i, i < m → (I i).fits) := ⟨hf, hg⟩
  have HN : Hid (n ≤ maxLen ∧ m ≤ maxLen) := ⟨hn, hm⟩
  clear h h' hf hg hn hm
  go_enter Tryd.func17, Tryd.ntmps17
  go_wp2_with fail
  refine (sz_lines a n cap L HN.out.1 HF.out.1 left hl _ HL.out).mono ?_
  rintro e w1 ⟨he, hb1⟩
  have HI1 : Hid (TextsAt w1 b m I) := HI.out.below hb1
  have HB1 : Hid (Below w.heap.size w w1) := ((Below.refl _ _).alloc (Nat.le_refl _) _).trans (hb1.mono (by simp))
  have c1 : w1.cell? ⟨w.heap.size, 1, none⟩ = some (.slice b m cap') := (hb1.cell (p := ⟨w.heap.size, 1, none⟩) (by simp)).trans (by simp)
  clear hb1 HL HI
  rcases he with rfl | ⟨r, rfl, hr, hnl, hsm⟩
  · have q : decide ((-1 : Int) < 0) = true := rfl
    go_wp2_with fail
    go_ret
    exact ⟨Or.inl rfl, HB1.out⟩
  have HS : Hid (∀ i, i < n → (L i).small) := hsm
  clear hsm
  have q : decide ((r : Int) < 0) = false := by simp
  go_wp2_with fail
  refine (sz_texts b m cap' I HN.out.2 HF.out.2 r (by omega) _ HI1.out).mono ?_
  rintro e w2 ⟨he, hb2⟩
  have HB2 : Hid (Below w.heap.size w w2) := HB1.out.trans (hb2.mono HB1.out.size)
  clear hb2 c1
  rcases he with rfl | ⟨t, rfl, ht, hml, hsm⟩
  · have q' : decide ((-1 : Int) < 0) = true := rfl
    go_wp2_with fail
    go_ret
    exact ⟨Or.inl rfl, HB2.out⟩
  have HS' : Hid (∀ i, i < m → (I i).small) := hsm
  clear hsm
  have q' : decide ((t : Int) < 0) = false := by simp
  go_wp2_with fail
  go_ret
  exact ⟨Or.inr ⟨t, rfl, by omega, hnl, by omega, HS.out, HS'.out⟩, HB2.out⟩
set_option maxRecDepth 100000 in
set_option maxHeartbeats 4000000 in
theorem to_book (a b : Option Addr) (n m cap cap' : Nat) (L : Nat → Ln) (I : Nat → Tx) (hn : n ≤ 1048576) (hm : m ≤ 1048576) (w : World) (h : LinesAt w a n L) (h' : TextsAt w b m I) :
    Calls Tryd.prog 19 #[.agg #[.slice a n cap, .slice b m cap']] w fun e w' => ∃ g k, e = .returned (.agg #[.slice (some ⟨g, 0, none⟩) n n, .slice (some ⟨k, 0, none⟩) m m]) ∧ w.heap.size ≤ g ∧ g < k ∧ Own w' g (n * 3) (lineF L) ∧ Own w' k m (textF I) ∧ Below w.heap.size w w' := by
  have HL : Hid (LinesAt w a n L) := h
  have HI : Hid (TextsAt w b m I) := h'
  clear h h'
  have HT0 : Hid (∀ cs, Three w (((w.alloc (.cells cs 49)).alloc (.cells #[.slice none 0 0, .slice none 0 0] 26)).alloc (.cells #[.slice none 0 0, .slice none 0 0] 26)) cs #[.slice none 0 0, .slice none 0 0] #[.slice none 0 0, .slice none 0 0]) := fun cs => three_new w cs #[.slice none 0 0, .slice none 0 0] #[.slice none 0 0, .slice none 0 0] _ _ _
  go_enter Tryd.func19, Tryd.ntmps19
  go_wp2_with fail
  refine (to_lines a n cap L hn _ (HL.out.below (HT0.out _).bel)).mono ?_
  rintro e w1 ⟨g, rfl, hg, hO, hb1⟩
  have T1 := (HT0.out _).next hb1
  have hg3 : w.heap.size + 3 ≤ g := by simp at hg; omega
  have b1 := T1.box 1
  have o0 := T1.out 0
  have of := T1.ofr
  simp at b1 o0
  have HT : Hid (Three w (w1.setCell ⟨w.heap.size + 1 + 1, 0, none⟩ (.slice (some ⟨g, 0, none⟩) n n)) #[.slice a n cap, .slice b m cap'] #[.slice none 0 0, .slice none 0 0] #[.slice (some ⟨g, 0, none⟩) n n, .slice none 0 0]) := T1.set 0 (by simp) _
  have HO : Hid (Own (w1.setCell ⟨w.heap.size + 1 + 1, 0, none⟩ (.slice (some ⟨g, 0, none⟩) n n)) g (n * 3) (lineF L)) := hO.grown (setGrown (World.grownBy.refl _ _)) (by omega)
  clear hb1 T1 hg hO
  go_wp2_with fail
  refine (to_texts b m cap' I hm _ (HI.out.below HT.out.bel)).mono ?_
  rintro e w2 ⟨k, rfl, hk, hO', hb2⟩
  have T2 := HT.out.next hb2
  have HO2 := HO.out.below hb2
  have hgk : g < k := by have := HO.out.1; omega
  have p0 := T2.out 0
  have p1 := T2.out 1
  have pf := T2.ofr
  have r0 := T2.res 0
  have r1 := T2.res 1
  have rf := T2.rfr
  simp at p0 p1 r0 r1
  have HB : Hid (Below w.heap.size w w2) := T2.bel
  have HO2 : Hid (Own w2 g (n * 3) (lineF L)) := HO2
  have HO3 : Hid (Own w2 k m (textF I)) := hO'
  have hk3 : w.heap.size + 3 ≤ k := by omega
  clear hb2 T2 hk hO' HT HO b1 o0 of
  go_wp2_with fail
  refine bodyPost_ret (v := .agg #[.slice (some ⟨g, 0, none⟩) n n, .slice (some ⟨k, 0, none⟩) m m]) ?_ rfl ⟨g, k, rfl, by omega, hgk, ?_, ?_, ?_⟩
  · simp [results, Tryd.results19, go_sem, r0, r1]
  · exact ((HO2.out.grown (setGrown (World.grownBy.refl _ _)) (by omega)).grown (setGrown (World.grownBy.refl _ _)) (by omega)).grown (setGrown (World.grownBy.refl _ _)) (by omega)
  · exact ((HO3.out.grown (setGrown (World.grownBy.refl _ _)) (by omega)).grown (setGrown (World.grownBy.refl _ _)) (by omega)).grown (setGrown (World.grownBy.refl _ _)) (by omega)
  · have a1 : w.heap.size ≤ w.heap.size + 1 := by omega
    have a2 : w.heap.size ≤ w.heap.size + 1 + 1 := by omega
    exact ((HB.out.setCell a2 _).setCell a1 _).setCell a1 _
set_option maxRecDepth 100000 in
set_option maxHeartbeats 4000000 in
theorem eq_book (a a' b b' : Option Addr) (n m c1 c2 c3 c4 : Nat) (L : Nat → Ln) (I : Nat → Tx) (hn : n ≤ 1048576) (hm : m ≤ 1048576) (w : World) (h : LinesAt w a n L) (h' : LinesAt w a' n L) (hi : TextsAt w b m I) (hi' : TextsAt w b' m I) :
    Calls Tryd.prog 22 #[.agg #[.slice a n c1, .slice b m c2], .agg #[.slice a' n c3, .slice b' m c4]] w fun e w' => e = .returned (.bool true) ∧ Below w.heap.size w w' := by
  have HT0 : Hid (∀ cs rs, Both w ((w.alloc (.cells cs 26)).alloc (.cells rs 26)) cs rs) := fun cs rs => two_now w cs rs _ _
  have HL : Hid (LinesAt w a n L ∧ LinesAt w a' n L) := ⟨h, h'⟩
  have HI : Hid (TextsAt w b m I ∧ TextsAt w b' m I) := ⟨hi, hi'⟩
  clear h h' hi hi'
  go_enter Tryd.func22, Tryd.ntmps22
  go_wp2_with fail
  refine (eq_lines a a' n c1 c3 L hn _ (HL.out.1.below (HT0.out _ _).bel) (HL.out.2.below (HT0.out _ _).bel)).mono ?_
  rintro e w1 ⟨rfl, hb1⟩
  have T1 := (HT0.out _ _).next hb1
  have b1 := T1.box 1
  have r1 := T1.res 1
  simp at b1 r1
  have HB1 : Hid (Below w.heap.size w w1) := T1.bel
  clear hb1 T1
  go_wp2_with fail
  refine (eq_texts b b' m c2 c4 I hm _ (HI.out.1.below HB1.out) (HI.out.2.below HB1.out)).mono ?_
  rintro e w2 ⟨rfl, hb2⟩
  have HB2 : Hid (Below w.heap.size w w2) := HB1.out.trans (hb2.mono HB1.out.size)
  clear hb2
  go_wp2_with fail
  go_ret
  exact ⟨rfl, HB2.out⟩
end Go.Proofs.YtpabdapaegllnaaDoor
