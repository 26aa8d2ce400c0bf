/- Right books (impl.BookRight): what the call does; the law. -/
import Derived.Test.YthjanamnkhggfaaBkH
import Derived.Test.YthjanamnkhggfaaBkS
namespace Go.Proofs.Ythjanamnkhggfaa
open Go.RowKit


/-- A book in a block. -/
structure Bb (W : World) (b : Nat) (v u : Value) : Prop where
  c0 : W.cell? ⟨b, 0, none⟩ = some v
  c1 : W.cell? ⟨b, 1, none⟩ = some u
  lt : b < W.heap.size
theorem Bb.below {W W' : World} {b : Nat} {v u : Value} (h : Bb W b v u) (hb : Below W.heap.size W W') : Bb W' b v u :=
  ⟨(hb.cell (p := ⟨b, 0, none⟩) h.lt).trans h.c0, (hb.cell (p := ⟨b, 1, none⟩) h.lt).trans h.c1, Nat.lt_of_lt_of_le h.lt hb.size⟩
theorem Bb.new (w : World) (v u : Value) (t : TypeId) : Bb (w.alloc (.cells #[v, u] t)) w.heap.size v u := ⟨by simp, by simp, by simp⟩
set_option maxRecDepth 100000 in
set_option maxHeartbeats 8000000 in
theorem impl_bookRight (g o g' o' n m cap cap' : Nat) (L : Nat → Ln) (I : Nat → Tx) (hn : n ≤ 1048576) (hm : m ≤ 1048576) (hf : ∀ i, i < n → (L i).fits) (hfi : ∀ i, i < m → (I i).fits) (w : World) (h : LinesAt w (some ⟨g, o, none⟩) n L) (h' : TextsAt w (some ⟨g', o', none⟩) m I) :
    Calls Try.prog 9 #[.agg #[.slice (some ⟨g, o, none⟩) n cap, .slice (some ⟨g', o', none⟩) m cap']] w fun e w' => e = .returned (.bool (bookB n m L I)) ∧ Below w.heap.size w w' := by
  have hb0 : Below w.heap.size w (w.alloc (.cells #[.slice (some ⟨g, o, none⟩) n cap, .slice (some ⟨g', o', none⟩) m cap'] 30)) := (Below.refl _ _).alloc (Nat.le_refl _) _
  have HB0 : Hid (Below w.heap.size w (w.alloc (.cells #[.slice (some ⟨g, o, none⟩) n cap, .slice (some ⟨g', o', none⟩) m cap'] 30))) := hb0
  cases hno : (linesB n L && idsB m I)
  · have HV : Hid (bookB n m L I = false) := by unfold bookB; rw [hno]; rfl
    have HC := impl_ledger_no g o g' o' n m cap cap' L I hn hm hf hfi hno _ (h.below hb0) (h'.below hb0)
    have HC : Hid (Calls Try.prog 28 _ _ _) := HC
    clear h h' hf hfi hb0 hno
    go_enter Try.func9, Try.ntmps9
    go_wp2_with fail
    refine HC.out.mono ?_
    rintro e w1 ⟨rfl, hb1⟩
    have HB1 : Hid (Below w.heap.size w w1) := HB0.out.trans (hb1.mono HB0.out.size)
    have hst := fun (W : World) (x y : Nat) (hc : W.cell? ⟨w1.heap.size, 3, none⟩ = some (.complex .f64 0 0)) (hf : W.frozen? ⟨w1.heap.size, 3, none⟩ = false) => store_cx ⟨w1.heap.size, 3, none⟩ x y _ W hc hf
    clear hb1 HC
    go_wp2_with fail
    go_ret
    exact ⟨by rw [HV.out]; rfl, HB1.out.alloc HB1.out.size _⟩
  · have hA : linesB n L = true := by cases hl : linesB n L; · rw [hl] at hno; cases hno
                                      · rfl
    have hJ : idsB m I = true := by rw [hA] at hno; exact hno
    have HC := impl_ledger_ok g o g' o' n m cap cap' L I hf hfi hA hJ _ (h.below hb0) (h'.below hb0)
    have HC : Hid (Calls Try.prog 28 _ _ _) := HC
    have HV : Hid (bookB n m L I = (sumL L n == 0)) := by unfold bookB; rw [hno]; rfl
    clear h h' hf hfi hb0 hno hA hJ
    go_enter Try.func9, Try.ntmps9
    go_wp2_with fail
    refine HC.out.mono ?_
    rintro e w1 ⟨a1, c1, a2, c2, M, fr, fi, er, rfl, her, _, _, hb1⟩
    have HB1 : Hid (Below w.heap.size w w1) := HB0.out.trans (hb1.mono HB0.out.size)
    have hst := fun (W : World) (x y : Nat) (hc : W.cell? ⟨w1.heap.size, 3, none⟩ = some (.complex .f64 0 0)) (hf : W.frozen? ⟨w1.heap.size, 3, none⟩ = false) => store_cx ⟨w1.heap.size, 3, none⟩ x y _ W hc hf
    clear hb1 HC
    rcases her with ⟨rfl, hs⟩ | ⟨rfl, hs⟩
    · have HV' : Hid (bookB n m L I = true) := by rw [HV.out, hs]; rfl
      clear hs HV
      go_wp2_with fail
      go_ret
      exact ⟨by rw [HV'.out]; rfl, HB1.out.alloc HB1.out.size _⟩
    · have HV' : Hid (bookB n m L I = false) := by rw [HV.out]; exact beq_eq_false_iff_ne.2 hs
      clear hs HV
      go_wp2_with fail
      go_ret
      exact ⟨by rw [HV'.out]; rfl, HB1.out.alloc HB1.out.size _⟩
set_option maxRecDepth 100000 in
set_option maxHeartbeats 8000000 in
theorem law_bookRight (a b : Option Addr) (n m cap cap' : Nat) (L : Nat → Ln) (I : Nat → Tx) (hn : n ≤ maxLen) (hm : m ≤ maxLen) (hf : ∀ i, i < n → (L i).fits) (hfi : ∀ i, i < m → (I i).fits) (w : World) (h : LinesAt w a n L) (h' : TextsAt w b m I) :
    Calls Try.prog 3 #[.agg #[.slice a n cap, .slice b m cap']] w fun e w' => e = .returned (.bool true) ∧ Below w.heap.size w w' := by
  have HL : Hid (LinesAt w a n L) := h
  have HI0 : Hid (TextsAt w b m I) := h'
  have HF : Hid ((∀ i, i < n → (L i).fits) ∧ ∀ i, i < m → (I i).fits) := ⟨hf, hfi⟩
  have HN : Hid (n ≤ maxLen ∧ m ≤ maxLen) := ⟨hn, hm⟩
  have HX0 : Hid (Bb (w.alloc (.cells #[.slice a n cap, .slice b m cap'] 25)) w.heap.size (.slice a n cap) (.slice b m cap')) := Bb.new _ _ _ _
  have HB0 : Hid (Below w.heap.size w (w.alloc (.cells #[.slice a n cap, .slice b m cap'] 25))) := (Below.refl _ _).alloc (Nat.le_refl _) _
  obtain ⟨B, hB⟩ : ∃ B, B = bookB n m L I := ⟨_, rfl⟩
  have HS : Hid (∀ g k W, n ≤ 1048576 → m ≤ 1048576 → LinesAt W (some ⟨g, 0, none⟩) n L → TextsAt W (some ⟨k, 0, none⟩) m I → Calls Try.prog 7 #[.agg #[.slice (some ⟨g, 0, none⟩) n n, .slice (some ⟨k, 0, none⟩) m m]] W fun e w' => e = .returned (.bool B) ∧ Below W.heap.size W w') := fun g k W h1 h2 h3 h4 => by rw [hB]; exact spec_bookRight _ _ n m n m L I h1 h2 HF.out.1 HF.out.2 W h3 h4
  have HI : Hid (∀ g k W, n ≤ 1048576 → m ≤ 1048576 → LinesAt W (some ⟨g, 0, none⟩) n L → TextsAt W (some ⟨k, 0, none⟩) m I → Calls Try.prog 9 #[.agg #[.slice (some ⟨g, 0, none⟩) n n, .slice (some ⟨k, 0, none⟩) m m]] W fun e w' => e = .returned (.bool B) ∧ Below W.heap.size W w') := fun g k W h1 h2 h3 h4 => by rw [hB]; exact impl_bookRight g 0 k 0 n m n m L I h1 h2 HF.out.1 HF.out.2 W h3 h4
  clear h h' hf hfi hn hm hB
  go_enter Try.func3, Try.ntmps3
  go_wp2_with fail
  refine (sz_book a b n m cap cap' L I HN.out.1 HN.out.2 HF.out.1 HF.out.2 1048576 (by omega) _ (HL.out.below HB0.out) (HI0.out.below HB0.out)).mono ?_
  rintro e w1 ⟨he, hb1⟩
  have HB1 : Hid (Below w.heap.size w w1) := HB0.out.trans (hb1.mono HB0.out.size)
  have HX1 : Hid (Bb w1 w.heap.size (.slice a n cap) (.slice b m cap')) := HX0.out.below hb1
  obtain ⟨c0, c1, clt⟩ := HX1.out
  clear hb1 HX0 HB0
  rcases he with rfl | ⟨r, rfl, hr, hnl, hml, _, _⟩
  · have q' : decide ((-1 : Int) < 0) = true := rfl
    go_wp2_with fail
    go_ret
    exact ⟨rfl, HB1.out⟩
  have q' : decide ((r : Int) < 0) = false := by simp
  go_wp2_with fail
  refine (to_book a b n m cap cap' L I hnl hml _ (HL.out.below HB1.out) (HI0.out.below HB1.out)).mono ?_
  rintro e w2 ⟨g, k, rfl, _, _, hO, hO', hb2⟩
  have HB2 : Hid (Below w.heap.size w w2) := HB1.out.trans (hb2.mono HB1.out.size)
  have HX2 : Hid (Bb w2 w.heap.size (.slice a n cap) (.slice b m cap')) := HX1.out.below hb2
  have HO : Hid (Own w2 g (n * 3) (lineF L) ∧ Own w2 k m (textF I)) := ⟨hO, hO'⟩
  clear hO hO' hb2 c0 c1 clt HX1
  go_wp2_with fail
  refine (HS.out g k _ hnl hml HO.out.1.lines HO.out.2.texts).mono ?_
  rintro e w3 ⟨rfl, hb3⟩
  have HB3 : Hid (Below w.heap.size w w3) := HB2.out.trans (hb3.mono HB2.out.size)
  have HX3 : Hid (Bb w3 w.heap.size (.slice a n cap) (.slice b m cap')) := HX2.out.below hb3
  obtain ⟨c0, c1, clt⟩ := HX3.out
  clear hb3 HO HX2
  go_wp2_with fail
  refine (to_book a b n m cap cap' L I hnl hml _ (HL.out.below HB3.out) (HI0.out.below HB3.out)).mono ?_
  rintro e w4 ⟨x, y, rfl, _, _, hO, hO', hb4⟩
  have hal : Below w4.heap.size w4 (w4.alloc (.cells #[.slice (some ⟨x, 0, none⟩) n n, .slice (some ⟨y, 0, none⟩) m m] 30)) := (Below.refl _ _).alloc (Nat.le_refl _) _
  have HX4 : Hid (Bb (w4.alloc (.cells #[.slice (some ⟨x, 0, none⟩) n n, .slice (some ⟨y, 0, none⟩) m m] 30)) w.heap.size (.slice a n cap) (.slice b m cap')) := (HX3.out.below hb4).below hal
  have HY4 : Hid (Bb (w4.alloc (.cells #[.slice (some ⟨x, 0, none⟩) n n, .slice (some ⟨y, 0, none⟩) m m] 30)) w4.heap.size (.slice (some ⟨x, 0, none⟩) n n) (.slice (some ⟨y, 0, none⟩) m m)) := Bb.new _ _ _ _
  have HO4 : Hid (Own (w4.alloc (.cells #[.slice (some ⟨x, 0, none⟩) n n, .slice (some ⟨y, 0, none⟩) m m] 30)) x (n * 3) (lineF L) ∧ Own (w4.alloc (.cells #[.slice (some ⟨x, 0, none⟩) n n, .slice (some ⟨y, 0, none⟩) m m] 30)) y m (textF I)) := ⟨hO.below hal, hO'.below hal⟩
  have HB4 : Hid (Below w.heap.size w (w4.alloc (.cells #[.slice (some ⟨x, 0, none⟩) n n, .slice (some ⟨y, 0, none⟩) m m] 30))) := (HB3.out.trans (hb4.mono HB3.out.size)).trans (hal.mono (Nat.le_trans HB3.out.size hb4.size))
  clear hO hO' hb4 hal c0 c1 clt HX3
  go_wp2_with fail
  refine (HI.out x y _ hnl hml HO4.out.1.lines HO4.out.2.texts).mono ?_
  rintro e w5 ⟨rfl, hb5⟩
  have HB5 : Hid (Below w.heap.size w w5) := HB4.out.trans (hb5.mono HB4.out.size)
  have HO5 : Hid (Own w5 x (n * 3) (lineF L) ∧ Own w5 y m (textF I)) := ⟨HO4.out.1.below hb5, HO4.out.2.below hb5⟩
  obtain ⟨c0, c1, clt⟩ := HX4.out.below hb5
  obtain ⟨d0, d1, dlt⟩ := HY4.out.below hb5
  clear hb5 HX4 HY4 HO4 HB4
  have hbb : ∀ b : Bool, (b != b) = false := fun b => by simp
  obtain ⟨P, hP⟩ : ∃ P, P = w4.heap.size := ⟨_, rfl⟩
  rw [← hP] at d0 d1 dlt ⊢
  clear hP
  go_upto_region 10 with fail
  go_region_held3 (fun W => W.cell? ⟨w.heap.size, 0, none⟩ = some (.slice a n cap) ∧ W.cell? ⟨w.heap.size, 1, none⟩ = some (.slice b m cap') ∧ W.cell? ⟨P, 0, none⟩ = some (.slice (some ⟨x, 0, none⟩) n n) ∧ W.cell? ⟨P, 1, none⟩ = some (.slice (some ⟨y, 0, none⟩) m m)) (go_keep) (first | (go_at_call 8; refine (to_book a b n m cap cap' L I hnl hml _ (HL.out.below HB5.out.drew) (HI0.out.below HB5.out.drew)).mono ?_; rintro e w6 ⟨x', y', rfl, _, _, hO, hO', hb6⟩; have e0 := (hb6.cell (p := ⟨w.heap.size, 0, none⟩) clt).trans c0; have e1 := (hb6.cell (p := ⟨w.heap.size, 1, none⟩) clt).trans c1; have f0 := (hb6.cell (p := ⟨P, 0, none⟩) dlt).trans d0; have f1 := (hb6.cell (p := ⟨P, 1, none⟩) dlt).trans d1; have hbu : Below w5.heap.size w5 w6 := (Below.refl _ w5).drew.trans hb6; have HO6 : Hid (Own w6 x (n * 3) (lineF L) ∧ Own w6 y m (textF I)) := ⟨HO5.out.1.below hbu, HO5.out.2.below hbu⟩; have HY6 : Hid (Own w6 x' (n * 3) (lineF L) ∧ Own w6 y' m (textF I)) := ⟨hO, hO'⟩; clear hO hO') | (go_at_call 10; refine (eq_book _ _ _ _ n m _ _ _ _ L I hnl hml _ HO6.out.1.lines HY6.out.1.lines HO6.out.2.texts HY6.out.2.texts).mono ?_; rintro e w7 ⟨rfl, hb7⟩; have g0 := (hb7.cell (p := ⟨w.heap.size, 0, none⟩) (Nat.lt_of_lt_of_le clt hb6.size)).trans e0; have g1 := (hb7.cell (p := ⟨w.heap.size, 1, none⟩) (Nat.lt_of_lt_of_le clt hb6.size)).trans e1; have h0 := (hb7.cell (p := ⟨P, 0, none⟩) (Nat.lt_of_lt_of_le dlt hb6.size)).trans f0; have h1 := (hb7.cell (p := ⟨P, 1, none⟩) (Nat.lt_of_lt_of_le dlt hb6.size)).trans f1))
  have HB7 : Hid (Below w.heap.size w w7) := HB5.out.trans ((hbu.trans (hb7.mono hbu.size)).mono HB5.out.size)
  clear hb6 hb7 hbu c0 c1 d0 d1 e0 e1 f0 f1 g0 g1 h0 h1
  go_wp2_with fail
  go_ret
  exact ⟨rfl, HB7.out⟩
end Go.Proofs.Ythjanamnkhggfaa
