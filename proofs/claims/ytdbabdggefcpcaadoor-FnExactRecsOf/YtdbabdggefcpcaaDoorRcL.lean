/- The law of RecsOf. -/
import Derived.Test.YtdbabdggefcpcaaDoorRcW
namespace Go.Proofs.YtdbabdggefcpcaaDoor
open Go.RowKit
open Go.Proofs.YtdbabdggefcpcaaDoor.Draw

theorem recs_is {s : ByteArray} (hs : s.size ≤ 20000) : ∀ d k, OkTo s k → s.size ≤ seqA s k + d → ∃ k' c, RecsIs s k' c
  | 0, k, h, hd => ⟨k, 0, h, Or.inl ⟨by omega, rfl⟩⟩
  | d + 1, k, h, hd => by
    by_cases h1 : s.size ≤ seqA s k
    · exact ⟨k, 0, h, Or.inl ⟨h1, rfl⟩⟩
    by_cases h2 : (readR s (seqA s k)).2.2 = 0
    · have := (readR_ok hs h2).1
      exact recs_is hs d (k + 1) (okTo_succ h (by omega) h2) (by show s.size ≤ (readR s (seqA s k)).2.1 + d; omega)
    · exact ⟨k, _, h, Or.inr ⟨by omega, rfl, h2⟩⟩
/-- An answer of so many texts. -/
def Ans (m : Nat) (U c : Int) (J : Nat → Tx) (W : World) (e : Ending) (w' : World) : Prop := ∃ a' c', e = .returned (.agg #[.slice a' m c', .int .i64 U, .int .i64 c]) ∧ OwnR w' a' m 1 (textF J) ∧ (∀ j, a'.map Addr.block = some j → W.heap.size ≤ j ∧ j < w'.heap.size) ∧ Below W.heap.size W w'
theorem ans_of {s : ByteArray} {w w' : World} {e : Ending} {k : Nat} {c : Int} (h : RecsPost s w e w') (hr : RecsIs s k c) : Ans k (seqA s k : Int) c (recT s) w e w' := by
  obtain ⟨k', c', v, rfl, hi, ho, hb⟩ := h
  obtain ⟨rfl, rfl⟩ := hi.same hr
  obtain ⟨a', q, rfl, hO, hl⟩ := own_texts ho
  exact ⟨a', q, rfl, hO, hl, hb⟩
theorem ownR_nil (w : World) (I : Nat → Tx) : OwnR w none 0 1 (textF I) := by
  obtain ⟨a', q, hv, hO, _⟩ := own_texts (w := w) (B := 0) (n := 0) (I := I) (World.ownsRow_nil _ _ _ _)
  cases hv
  exact hO
/-- An answer's block. -/
structure Bo (W : World) (P : Nat) (v : Value) (U c : Int) : Prop where
  c0 : W.cell? ⟨P, 0, none⟩ = some v
  c1 : W.cell? ⟨P, 1, none⟩ = some (.int .i64 U)
  c2 : W.cell? ⟨P, 2, none⟩ = some (.int .i64 c)
  lt : P < W.heap.size
theorem Bo.new (w : World) (v : Value) (U c : Int) (t : TypeId) : Bo (w.alloc (.cells #[v, .int .i64 U, .int .i64 c] t)) w.heap.size v U c := ⟨by simp, by simp, by simp, by simp⟩
theorem Bo.below {W W' : World} {P : Nat} {v : Value} {U c : Int} (h : Bo W P v U c) (hb : Below W.heap.size W W') : Bo W' P v U c :=
  ⟨(hb.cell (p := ⟨P, 0, none⟩) h.lt).trans h.c0, (hb.cell (p := ⟨P, 1, none⟩) h.lt).trans h.c1, (hb.cell (p := ⟨P, 2, none⟩) h.lt).trans h.c2, Nat.lt_of_lt_of_le h.lt hb.size⟩
theorem Bo.grown {W W' : World} {P : Nat} {v : Value} {U c : Int} {row : Option Nat} (h : Bo W P v U c) (hg : W.grownBy W' row) (hne : some P ≠ row) : Bo W' P v U c := by
  have g := hg.block P h.lt hne
  exact ⟨(World.cell?_of_block (a := ⟨P, 0, none⟩) g).trans h.c0, (World.cell?_of_block (a := ⟨P, 1, none⟩) g).trans h.c1, (World.cell?_of_block (a := ⟨P, 2, none⟩) g).trans h.c2, Nat.lt_of_lt_of_le h.lt hg.size⟩
set_option maxRecDepth 100000 in
set_option maxHeartbeats 8000000 in
theorem eq_recsOut (b b' : Option Addr) (m c1 c2 : Nat) (U c : Int) (I : Nat → Tx) (hm : m ≤ 1048576) (w : World) (hi : TextsAt w b m I) (hi' : TextsAt w b' m I) :
    Calls Tryd.prog 20 #[.agg #[.slice b m c1, .int .i64 U, .int .i64 c], .agg #[.slice b' m c2, .int .i64 U, .int .i64 c]] w fun e w' => e = .returned (.bool true) ∧ Below w.heap.size w w' := by
  have HT0 : Hid (∀ cs rs, Both w ((w.alloc (.cells cs 27)).alloc (.cells rs 27)) cs rs) := fun cs rs => two_now w cs rs _ _
  have HI : Hid (TextsAt w b m I ∧ TextsAt w b' m I) := ⟨hi, hi'⟩
  have hxx : ∀ z : Int, (z != z) = false := fun z => by simp
  clear hi hi'
  go_enter Tryd.func20, Tryd.ntmps20
  go_wp2_with fail
  refine (eq_texts b b' m c1 c2 I hm _ (HI.out.1.below ?_) (HI.out.2.below ?_)).mono ?_
  · exact (HT0.out _ _).bel
  · exact (HT0.out _ _).bel
  rintro e w1 ⟨rfl, hb1⟩
  have T1 := (HT0.out _ _).next hb1
  have b1 := T1.box 1
  have b2 := T1.box 2
  have r1 := T1.res 1
  have r2 := T1.res 2
  simp only [List.getElem?_toArray, List.getElem?_cons_zero, List.getElem?_cons_succ] at b1 b2 r1 r2
  have HB1 : Hid (Below w.heap.size w w1) := T1.bel
  clear hb1 T1
  go_wp2_with fail
  go_ret
  exact ⟨rfl, HB1.out⟩
set_option maxRecDepth 100000 in
set_option maxHeartbeats 8000000 in
theorem mark_recsOut (a : Option Addr) (m cap : Nat) (U c : Int) (F : Nat → Value) (hm : m ≤ 1048576) (k0 : Nat) (hk1 : 1 ≤ k0) (hk2 : k0 ≤ 549755813888) (w : World) (h : OwnR w a m 1 F) :
    Calls Tryd.prog 21 #[.agg #[.slice a m cap, .int .i64 U, .int .i64 c], .int .i64 (k0 : Int)] w fun e w' => e = .returned (.int .i64 ((k0 + m : Nat) : Int)) ∧ OwnR w' a m 1 (mkT k0) ∧ w.grownBy w' (a.map Addr.block) := by
  have HO : Hid (OwnR (w.alloc (.cells #[.slice a m cap, .int .i64 U, .int .i64 c] 27)) a m 1 F) := h.below ((Below.refl _ _).alloc (Nat.le_refl _) _)
  have HG : Hid (∀ r, w.grownBy (w.alloc (.cells #[.slice a m cap, .int .i64 U, .int .i64 c] 27)) r) := fun r => World.grownBy_alloc _ _ _
  clear h
  go_enter Tryd.func21, Tryd.ntmps21
  go_wp2_with fail
  refine (mark_texts a m cap F hm k0 hk1 hk2 _ HO.out).mono ?_
  rintro e w1 ⟨rfl, hO, hg⟩
  have HO1 : Hid (OwnR w1 a m 1 (mkT k0)) := hO
  have HG1 : Hid (w.grownBy w1 (a.map Addr.block)) := gr_trans (HG.out _) hg
  clear hO hg HO
  go_wp2_with fail
  go_ret
  exact ⟨rfl, HO1.out, HG1.out⟩
set_option maxRecDepth 100000 in
set_option maxHeartbeats 8000000 in
theorem held_recsOut (a : Option Addr) (m cap : Nat) (U c : Int) (hm : m ≤ 1048576) (k0 : Nat) (hk1 : 1 ≤ k0) (hk2 : k0 ≤ 549755813888) (w : World) (h : OwnR w a m 1 (mkT k0)) :
    Calls Tryd.prog 22 #[.agg #[.slice a m cap, .int .i64 U, .int .i64 c], .int .i64 (k0 : Int)] w fun e w' => e = .returned (.int .i64 ((k0 + m : Nat) : Int)) ∧ Below w.heap.size w w' := by
  have HO : Hid (OwnR (w.alloc (.cells #[.slice a m cap, .int .i64 U, .int .i64 c] 27)) a m 1 (mkT k0)) := h.below ((Below.refl _ _).alloc (Nat.le_refl _) _)
  clear h
  go_enter Tryd.func22, Tryd.ntmps22
  go_wp2_with fail
  refine (held_texts a m cap hm k0 hk1 hk2 _ HO.out).mono ?_
  rintro e w1 ⟨rfl, hb1⟩
  have HB1 : Hid (Below w.heap.size w w1) := ((Below.refl _ _).alloc (Nat.le_refl _) _).trans (hb1.mono (by simp))
  clear hb1 HO
  have q : decide (((k0 + m : Nat) : Int) < 0) = false := by simp; omega
  have q' : decide ((k0 : Int) + (m : Int) < 0) = false := by simp; omega
  go_wp2_with fail
  go_ret
  exact ⟨rfl, HB1.out⟩
set_option maxRecDepth 100000 in
set_option maxHeartbeats 8000000 in
theorem spec_recsBig (s : ByteArray) (h0 : 20000 < s.size) (w : World) :
    Calls Tryd.prog 19 #[.string s] w fun e w' => Ans 0 0 2 (recT s) w e w' := by
  have p0 : decide (20000 < s.size) = true := by simp; omega
  have p1 : decide ((20000 : Int) < (s.size : Int)) = true := by simp; omega
  go_enter Tryd.func19, Tryd.ntmps19
  go_wp2_with fail
  refine bodyPost_ret (v := .agg #[.slice none 0 0, .int .i64 0, .int .i64 2]) ?_ rfl ⟨none, 0, rfl, ?_, ?_, ?_⟩
  · simp [results, Tryd.results19, go_sem]
  · exact ownR_nil _ _
  · exact fun j e => by cases e
  · first | exact (Below.refl _ _).alloc (Nat.le_refl _) _ | exact ((((Below.refl _ _).alloc (Nat.le_refl _) _).setCell (Nat.le_refl _) _).setCell (Nat.le_refl _) _).setCell (Nat.le_refl _) _
set_option maxRecDepth 100000 in
set_option maxHeartbeats 8000000 in
theorem impl_recsBig (s : ByteArray) (h0 : 20000 < s.size) (w : World) :
    Calls Tryd.prog 9 #[.string s] w fun e w' => Ans 0 0 2 (recT s) w e w' := by
  have p0 : decide (20000 < s.size) = true := by simp; omega
  have p1 : decide ((20000 : Int) < (s.size : Int)) = true := by simp; omega
  go_enter Tryd.func9, Tryd.ntmps9
  go_wp2_with fail
  refine bodyPost_ret (v := .agg #[.slice none 0 0, .int .i64 0, .int .i64 2]) ?_ rfl ⟨none, 0, rfl, ?_, ?_, ?_⟩
  · simp [results, Tryd.results9, go_sem]
  · exact ownR_nil _ _
  · exact fun j e => by cases e
  · first | exact (Below.refl _ _).alloc (Nat.le_refl _) _ | exact ((((Below.refl _ _).alloc (Nat.le_refl _) _).setCell (Nat.le_refl _) _).setCell (Nat.le_refl _) _).setCell (Nat.le_refl _) _
set_option maxRecDepth 100000 in
set_option maxHeartbeats 8000000 in
theorem law_recsOf (s : ByteArray) (hs : s.size ≤ maxLen) (w : World) (hL : Lay w) :
    Calls Tryd.prog 5 #[.string s] w fun e w' => e = .returned (.bool true) ∧ Below w.heap.size w w' := by
  unfold maxLen at hs
  by_cases h0 : 1048576 < s.size
  · have p0 : decide (1048576 < s.size) = true := by simpa using h0
    have p1 : decide ((1048576 : Int) < (s.size : Int)) = true := by simp; omega
    go_enter Tryd.func5, Tryd.ntmps5
    go_wp2_with fail
    go_ret
    exact ⟨rfl, Below.refl _ _⟩
  have p0 : decide (1048576 < s.size) = false := by simpa using h0
  have p1 : decide ((1048576 : Int) < (s.size : Int)) = false := by simp; omega
  have HLay : Hid (Lay w) := hL
  obtain ⟨m, U, c, J, hm, HS, HI⟩ : ∃ m U c J, m ≤ 1048576 ∧ Hid (∀ W, Calls Tryd.prog 19 #[.string s] W fun e w' => Ans m U c J W e w') ∧ Hid (∀ W, Lay W → Calls Tryd.prog 9 #[.string s] W fun e w' => Ans m U c J W e w') := by
    by_cases h1 : s.size ≤ 20000
    · obtain ⟨k, c, hr⟩ := recs_is h1 s.size 0 (fun j hj => by omega) (by omega)
      have := okTo_le h1 k hr.1
      exact ⟨k, (seqA s k : Int), c, recT s, by omega, fun W => (spec_recsOf s h1 W).mono fun _ _ h => ans_of h hr, fun W hW => (impl_recsOf s h1 W hW).mono fun _ _ h => ans_of h hr⟩
    · exact ⟨0, 0, 2, recT s, by omega, fun W => spec_recsBig s (by omega) W, fun W _ => impl_recsBig s (by omega) W⟩
  clear hL h0 hs
  go_enter Tryd.func5, Tryd.ntmps5
  go_wp2_with fail
  refine (HS.out _).mono ?_
  rintro e w1 ⟨sa, cs, rfl, hOs, hls, hb1⟩
  have HL1 : Hid (Below w1.heap.size w1 (w1.alloc (.cells #[.slice sa m cs, .int .i64 U, .int .i64 c] 27))) := (Below.refl _ _).alloc (Nat.le_refl _) _
  have HB1 : Hid (Below w.heap.size w (w1.alloc (.cells #[.slice sa m cs, .int .i64 U, .int .i64 c] 27))) := hb1.alloc hb1.size _
  have HOs1 : Hid (OwnR (w1.alloc (.cells #[.slice sa m cs, .int .i64 U, .int .i64 c] 27)) sa m 1 (textF J)) := hOs.below HL1.out
  have HLs : Hid (∀ k, sa.map Addr.block = some k → k < w1.heap.size) := fun k e => (hls k e).2
  have HW1 : Hid (w.heap.size ≤ w1.heap.size) := hb1.size
  clear hOs hls hb1 HL1
  go_wp2_with fail
  refine (HI.out _ (HLay.out.below HB1.out)).mono ?_
  rintro e w2 ⟨ga, cg, rfl, hOg, hlg, hb2⟩
  have HL2 : Hid (Below w2.heap.size w2 (w2.alloc (.cells #[.slice ga m cg, .int .i64 U, .int .i64 c] 27))) := (Below.refl _ _).alloc (Nat.le_refl _) _
  have HB2 : Hid (Below w.heap.size w (w2.alloc (.cells #[.slice ga m cg, .int .i64 U, .int .i64 c] 27))) := (HB1.out.trans (hb2.mono HB1.out.size)).alloc (Nat.le_trans HB1.out.size hb2.size) _
  have HOs2 : Hid (OwnR (w2.alloc (.cells #[.slice ga m cg, .int .i64 U, .int .i64 c] 27)) sa m 1 (textF J)) := (HOs1.out.below hb2).below HL2.out
  have HOg2 : Hid (OwnR (w2.alloc (.cells #[.slice ga m cg, .int .i64 U, .int .i64 c] 27)) ga m 1 (textF J)) := hOg.below HL2.out
  have HNG : Hid (∀ k, ga.map Addr.block = some k → w1.heap.size < k ∧ k < w2.heap.size) := fun k e => ⟨by have := (hlg k e).1; simp at this; omega, (hlg k e).2⟩
  have HA2 : Hid (Bo (w2.alloc (.cells #[.slice ga m cg, .int .i64 U, .int .i64 c] 27)) w1.heap.size (.slice sa m cs) U c) := ((Bo.new _ _ _ _ _).below hb2).below HL2.out
  have HG2 : Hid (Bo (w2.alloc (.cells #[.slice ga m cg, .int .i64 U, .int .i64 c] 27)) w2.heap.size (.slice ga m cg) U c) := Bo.new _ _ _ _ _
  have HPP : Hid (w1.heap.size < w2.heap.size) := by have := hb2.size; simp at this; exact this
  clear hOg hlg hb2 HL2 HOs1 HB1
  go_upto_region 5 with fail
  obtain ⟨W2, hW2⟩ : ∃ W, W = w2.alloc (.cells #[.slice ga m cg, .int .i64 U, .int .i64 c] 27) := ⟨_, rfl⟩
  obtain ⟨PA, hPA⟩ : ∃ P, P = w1.heap.size := ⟨_, rfl⟩
  obtain ⟨PG, hPG⟩ : ∃ P, P = w2.heap.size := ⟨_, rfl⟩
  rw [← hW2] at HB2 HOs2 HOg2 HA2 HG2 ⊢
  rw [← hPA] at HA2 HNG HLs HPP HW1 ⊢
  rw [← hPG] at HG2 HNG HPP ⊢
  clear hW2 hPA hPG
  obtain ⟨a0, a1, a2, alt⟩ := HA2.out
  obtain ⟨g0, g1, g2, glt⟩ := HG2.out
  go_wp2_with fail
  refine (eq_recsOut ga sa m cg cs U c J hm _ HOg2.out.texts HOs2.out.texts).mono ?_
  rintro e w3 ⟨rfl, hb3⟩
  have HB3 : Hid (Below w.heap.size w w3) := HB2.out.trans (hb3.mono HB2.out.size)
  have HA3 : Hid (Bo w3 PA (.slice sa m cs) U c) := HA2.out.below hb3
  have HG3 : Hid (Bo w3 PG (.slice ga m cg) U c) := HG2.out.below hb3
  have HOs3 : Hid (OwnR w3 sa m 1 (textF J)) := HOs2.out.below hb3
  have HOg3 : Hid (OwnR w3 ga m 1 (textF J)) := HOg2.out.below hb3
  clear hb3 HB2 HA2 HG2 HOs2 HOg2 a0 a1 a2 alt g0 g1 g2 glt
  obtain ⟨g0, g1, g2, glt⟩ := HG3.out
  go_wp2_with fail
  refine (mark_recsOut ga m cg U c (textF J) hm 1 (by omega) (by omega) _ HOg3.out).mono ?_
  rintro e w4 ⟨rfl, hO4, hg4⟩
  have pw := HW1.out
  have pp := HPP.out
  have HB4 : Hid (Below w.heap.size w w4) := HB3.out.grown hg4 HB3.out.size (fun k hk => by have := (HNG.out k hk).1; omega)
  have HA4 : Hid (Bo w4 PA (.slice sa m cs) U c) := HA3.out.grown hg4 (fun e => by have := (HNG.out _ e.symm).1; omega)
  have HG4 : Hid (Bo w4 PG (.slice ga m cg) U c) := HG3.out.grown hg4 (fun e => by have := (HNG.out _ e.symm).2; omega)
  have HOs4 : Hid (OwnR w4 sa m 1 (textF J)) := HOs3.out.grown hg4 (fun k e e' => by have := HLs.out k e; have := (HNG.out k e'.symm).1; omega)
  have HOg4 : Hid (OwnR w4 ga m 1 (mkT 1)) := hO4
  clear hg4 hO4 pw pp HB3 HA3 HG3 HOs3 HOg3 g0 g1 g2 glt
  obtain ⟨g0, g1, g2, glt⟩ := HG4.out
  go_wp2_with fail
  refine (held_recsOut ga m cg U c hm 1 (by omega) (by omega) _ HOg4.out).mono ?_
  rintro e w5 ⟨rfl, hb5⟩
  have HB5 : Hid (Below w.heap.size w w5) := HB4.out.trans (hb5.mono HB4.out.size)
  have HA5 : Hid (Bo w5 PA (.slice sa m cs) U c) := HA4.out.below hb5
  have HG5 : Hid (Bo w5 PG (.slice ga m cg) U c) := HG4.out.below hb5
  have HOs5 : Hid (OwnR w5 sa m 1 (textF J)) := HOs4.out.below hb5
  have HOg5 : Hid (OwnR w5 ga m 1 (mkT 1)) := HOg4.out.below hb5
  clear hb5 HB4 HA4 HG4 HOs4 HOg4 g0 g1 g2 glt
  have qc : decide (((1 + m : Nat) : Int) < 0) = false := by simp; omega
  have qc' : decide ((1 : Int) + (m : Int) < 0) = false := by simp; omega
  have qq : ∀ z : Int, (z != z) = false := fun z => by simp
  go_wp2_with fail
  refine (HI.out _ (HLay.out.below HB5.out)).mono ?_
  rintro e w6 ⟨ah, ch, rfl, hOh, _, hb6⟩
  have HL6 : Hid (Below w6.heap.size w6 (w6.alloc (.cells #[.slice ah m ch, .int .i64 U, .int .i64 c] 27))) := (Below.refl _ _).alloc (Nat.le_refl _) _
  have hbt : Below w5.heap.size w5 (w6.alloc (.cells #[.slice ah m ch, .int .i64 U, .int .i64 c] 27)) := hb6.alloc hb6.size _
  have HB6 : Hid (Below w.heap.size w (w6.alloc (.cells #[.slice ah m ch, .int .i64 U, .int .i64 c] 27))) := HB5.out.trans (hbt.mono HB5.out.size)
  have HA6 : Hid (Bo (w6.alloc (.cells #[.slice ah m ch, .int .i64 U, .int .i64 c] 27)) PA (.slice sa m cs) U c) := HA5.out.below hbt
  have HG6 : Hid (Bo (w6.alloc (.cells #[.slice ah m ch, .int .i64 U, .int .i64 c] 27)) PG (.slice ga m cg) U c) := HG5.out.below hbt
  have HH6 : Hid (Bo (w6.alloc (.cells #[.slice ah m ch, .int .i64 U, .int .i64 c] 27)) w6.heap.size (.slice ah m ch) U c) := Bo.new _ _ _ _ _
  have HOs6 : Hid (OwnR (w6.alloc (.cells #[.slice ah m ch, .int .i64 U, .int .i64 c] 27)) sa m 1 (textF J)) := HOs5.out.below hbt
  have HOg6 : Hid (OwnR (w6.alloc (.cells #[.slice ah m ch, .int .i64 U, .int .i64 c] 27)) ga m 1 (mkT 1)) := HOg5.out.below hbt
  have HOh6 : Hid (OwnR (w6.alloc (.cells #[.slice ah m ch, .int .i64 U, .int .i64 c] 27)) ah m 1 (textF J)) := hOh.below HL6.out
  clear hb6 hbt hOh HL6 HB5 HA5 HG5 HOs5 HOg5
  go_upto_region 16 with fail
  obtain ⟨W6, hW6⟩ : ∃ W, W = w6.alloc (.cells #[.slice ah m ch, .int .i64 U, .int .i64 c] 27) := ⟨_, rfl⟩
  obtain ⟨PH, hPH⟩ : ∃ P, P = w6.heap.size := ⟨_, rfl⟩
  rw [← hW6] at HB6 HA6 HG6 HH6 HOs6 HOg6 HOh6 ⊢
  rw [← hPH] at HH6 ⊢
  clear hW6 hPH
  obtain ⟨a0, a1, a2, alt⟩ := HA6.out
  obtain ⟨h0, h1, h2, hlt⟩ := HH6.out
  go_wp2_with fail
  refine (eq_recsOut ah sa m ch cs U c J hm _ HOh6.out.texts HOs6.out.texts).mono ?_
  rintro e w7 ⟨rfl, hb7⟩
  have HB7 : Hid (Below w.heap.size w w7) := HB6.out.trans (hb7.mono HB6.out.size)
  have HG7 : Hid (Bo w7 PG (.slice ga m cg) U c) := HG6.out.below hb7
  have HOg7 : Hid (OwnR w7 ga m 1 (mkT 1)) := HOg6.out.below hb7
  clear hb7 HB6 HA6 HG6 HH6 HOs6 HOg6 HOh6 a0 a1 a2 alt h0 h1 h2 hlt
  obtain ⟨g0, g1, g2, glt⟩ := HG7.out
  go_wp2_with fail
  refine (held_recsOut ga m cg U c hm 1 (by omega) (by omega) _ HOg7.out).mono ?_
  rintro e w8 ⟨rfl, hb8⟩
  have HB8 : Hid (Below w.heap.size w w8) := HB7.out.trans (hb8.mono HB7.out.size)
  clear hb8 HB7 HG7 HOg7 g0 g1 g2 glt
  go_wp2_with fail
  go_ret
  exact ⟨rfl, HB8.out⟩
end Go.Proofs.YtdbabdggefcpcaaDoor
