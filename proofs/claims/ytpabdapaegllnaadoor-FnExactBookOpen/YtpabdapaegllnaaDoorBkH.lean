/- A right book copied to be worked on (impl.ledgerOf): what the call does. -/
import Derived.Test.YtpabdapaegllnaaDoorBkG
namespace Go.Proofs.YtpabdapaegllnaaDoor
open Go.RowKit
open Go.Proofs.YtpabdapaegllnaaDoor.Draw

theorem TextsAt.set {w : World} {g o m q j : Nat} {I : Nat → Tx} {v : Value} (h : TextsAt w (some ⟨g, o, none⟩) m I) (hne : g ≠ q) : TextsAt (w.setCell ⟨q, j, none⟩ v) (some ⟨g, o, none⟩) m I := h.grown (setGrown (World.grownBy.refl _ _)) (fun k e => by simp at e; subst e; simpa using hne)
/-- A ledger's block. -/
structure Led (W : World) (l : Nat) (v0 v1 v2 v3 : Value) : Prop where
  c0 : W.cell? ⟨l, 0, none⟩ = some v0
  c1 : W.cell? ⟨l, 1, none⟩ = some v1
  c2 : W.cell? ⟨l, 2, none⟩ = some v2
  c3 : W.cell? ⟨l, 3, none⟩ = some v3
  fz : ∀ j, W.frozen? ⟨l, j, none⟩ = false
  lt : l < W.heap.size
theorem Led.below {W W' : World} {l : Nat} {v0 v1 v2 v3 : Value} (h : Led W l v0 v1 v2 v3) (hb : Below W.heap.size W W') : Led W' l v0 v1 v2 v3 :=
  ⟨(hb.cell (p := ⟨l, 0, none⟩) h.lt).trans h.c0, (hb.cell (p := ⟨l, 1, none⟩) h.lt).trans h.c1, (hb.cell (p := ⟨l, 2, none⟩) h.lt).trans h.c2, (hb.cell (p := ⟨l, 3, none⟩) h.lt).trans h.c3, fun j => (hb.frozen (p := ⟨l, j, none⟩) h.lt).trans (h.fz j), Nat.lt_of_lt_of_le h.lt hb.size⟩
theorem Led.set0 {W : World} {l : Nat} {v0 v1 v2 v3 : Value} (h : Led W l v0 v1 v2 v3) (u : Value) : Led (W.setCell ⟨l, 0, none⟩ u) l u v1 v2 v3 := by
  have a0 := h.c0
  refine ⟨by simp [go_sem, a0], ?_, ?_, ?_, fun j => by simp only [World.frozen?_setCell]; exact h.fz j, by simpa using h.lt⟩
  · rw [World.cell?_setCell_other _ _ _ _ (by simp)]; exact h.c1
  · rw [World.cell?_setCell_other _ _ _ _ (by simp)]; exact h.c2
  · rw [World.cell?_setCell_other _ _ _ _ (by simp)]; exact h.c3
theorem Led.set1 {W : World} {l : Nat} {v0 v1 v2 v3 : Value} (h : Led W l v0 v1 v2 v3) (u : Value) : Led (W.setCell ⟨l, 1, none⟩ u) l v0 u v2 v3 := by
  have a0 := h.c1
  refine ⟨?_, by simp [go_sem, a0], ?_, ?_, fun j => by simp only [World.frozen?_setCell]; exact h.fz j, by simpa using h.lt⟩
  · rw [World.cell?_setCell_other _ _ _ _ (by simp)]; exact h.c0
  · rw [World.cell?_setCell_other _ _ _ _ (by simp)]; exact h.c2
  · rw [World.cell?_setCell_other _ _ _ _ (by simp)]; exact h.c3
theorem Led.set3 {W : World} {l : Nat} {v0 v1 v2 v3 : Value} (h : Led W l v0 v1 v2 v3) (u : Value) : Led (W.setCell ⟨l, 3, none⟩ u) l v0 v1 v2 u := by
  have a0 := h.c3
  refine ⟨?_, ?_, ?_, by simp [go_sem, a0], fun j => by simp only [World.frozen?_setCell]; exact h.fz j, by simpa using h.lt⟩
  · rw [World.cell?_setCell_other _ _ _ _ (by simp)]; exact h.c0
  · rw [World.cell?_setCell_other _ _ _ _ (by simp)]; exact h.c1
  · rw [World.cell?_setCell_other _ _ _ _ (by simp)]; exact h.c2
theorem four_set (W : World) (d b : Nat) (v0 v1 v2 v3 : Value) : W.grownBy (((((W.drewN d).setCell ⟨b, 0, none⟩ v0).setCell ⟨b, 1, none⟩ v1).setCell ⟨b, 2, none⟩ v2).setCell ⟨b, 3, none⟩ v3) (some b) :=
  setGrown (setGrown (setGrown (setGrown ⟨rfl, rfl, rfl, Nat.le_refl _, fun _ _ _ => rfl⟩)))
/-- The result's block is still zero. -/
def Zr (w W : World) : Prop := Led W (w.heap.size + 1) (.slice none 0 0) (.slice none 0 0) (.map none) (.complex .f64 0 0)
theorem Led.grown {W W' : World} {b : Nat} {row : Option Nat} {v0 v1 v2 v3 : Value} (h : Led W b v0 v1 v2 v3) (hg : W.grownBy W' row) (hne : some b ≠ row) : Led W' b v0 v1 v2 v3 := by
  have hb := hg.block b h.lt hne
  exact ⟨(World.cell?_of_block (a := ⟨b, 0, none⟩) hb).trans h.c0, (World.cell?_of_block (a := ⟨b, 1, none⟩) hb).trans h.c1, (World.cell?_of_block (a := ⟨b, 2, none⟩) hb).trans h.c2, (World.cell?_of_block (a := ⟨b, 3, none⟩) hb).trans h.c3, fun j => (World.frozen?_of_block (a := ⟨b, j, none⟩) hb).trans (h.fz j), Nat.lt_of_lt_of_le h.lt hg.size⟩
theorem Led.setl {W : World} {b l j : Nat} {v0 v1 v2 v3 u : Value} (h : Led W b v0 v1 v2 v3) (hne : b ≠ l) : Led (W.setCell ⟨l, j, none⟩ u) b v0 v1 v2 v3 := h.grown (setGrown (World.grownBy.refl _ _)) (by simpa using hne)
theorem LinesAt.setl {W : World} {a : Option Addr} {n l j : Nat} {L : Nat → Ln} {u : Value} (h : LinesAt W a n L) (hne : ∀ k, a.map Addr.block = some k → k ≠ l) : LinesAt (W.setCell ⟨l, j, none⟩ u) a n L := h.grown (setGrown (World.grownBy.refl _ _)) (fun k e => by simpa using hne k e)
theorem okLine_m {L : Nat → Ln} {j : Nat} (h : okLine L j = true) : -1000000000000 ≤ (L j).m ∧ (L j).m ≤ 1000000000000 := by
  simp only [okLine, Bool.and_eq_true] at h
  exact (rightB_iff _).1 h.1.2
theorem count_step {r i k : Nat} {x t : Int} (h : (i : Int) - (r : Int) = t) (hr : r ≤ k * 1000000000000) (hi : i ≤ k * 1000000000000) (h0 : -1000000000000 ≤ x) (h1 : x ≤ 1000000000000) : (putI i x : Int) - (takeI r x : Int) = t + x ∧ takeI r x ≤ (k + 1) * 1000000000000 ∧ putI i x ≤ (k + 1) * 1000000000000 := by
  unfold putI takeI
  by_cases hx : x < 0
  · rw [if_pos hx, if_pos hx]; omega
  · rw [if_neg hx, if_neg hx]; omega
set_option maxRecDepth 100000 in
set_option maxHeartbeats 16000000 in
theorem impl_ledger_ok (g o g' o' n m cap cap' : Nat) (L : Nat → Ln) (I : Nat → Tx) (hf : ∀ i, i < n → (L i).fits) (hfi : ∀ i, i < m → (I i).fits) (hA : linesB n L = true) (hJ : idsB m I = true) (w : World) (h : LinesAt w (some ⟨g, o, none⟩) n L) (h' : TextsAt w (some ⟨g', o', none⟩) m I) :
    Calls Tryd.prog 38 #[.agg #[.slice (some ⟨g, o, none⟩) n cap, .slice (some ⟨g', o', none⟩) m cap']] w fun e w' => ∃ (a1 : Option Addr) (c1 : Nat) (a2 : Option Addr) (c2 M fr fi : Nat) (er : Value), e = .returned (.tuple #[.agg #[.slice a1 n c1, .slice a2 m c2, .map (some M), .complex .f64 fr fi], er]) ∧ (er = .nilIface ∧ sumL L n = 0 ∨ er = .iface 106 (.agg #[.int .i64 1]) ∧ sumL L n ≠ 0) ∧ w'.ownsMap Tryd.prog 38 (plainElem Tryd.prog 3) M n (placesD L n) ∧ LinesAt w' a1 n L ∧ Below w.heap.size w w' := by
  obtain ⟨i0, hi, hz0, hz1, hz2⟩ := info_parts infoLn
  obtain ⟨i1, hi', hz0', hz1', hz2'⟩ := info_parts infoTx
  obtain ⟨hn60, hok⟩ := (linesB_iff n L).1 hA
  obtain ⟨hm100, _⟩ := (idsB_iff m I).1 hJ
  have HOK : Hid (∀ j, j < n → okLine L j = true) := hok
  have T0 := two_now w #[.slice (some ⟨g, o, none⟩) n cap, .slice (some ⟨g', o', none⟩) m cap'] #[.slice none 0 0, .slice none 0 0, .map none, .complex .f64 0 0] 26 72
  have HLR := impl_lines (some ⟨g, o, none⟩) n cap L (by omega) hf ((w.alloc (.cells #[.slice (some ⟨g, o, none⟩) n cap, .slice (some ⟨g', o', none⟩) m cap'] 26)).alloc (.cells #[.slice none 0 0, .slice none 0 0, .map none, .complex .f64 0 0] 72)) (h.below T0.bel)
  have HIR := fun W (hW : Below w.heap.size w W) => impl_ids (some ⟨g', o', none⟩) m cap' I (by omega) hfi W (h'.below hW)
  have HL : Hid (LinesAt w (some ⟨g, o, none⟩) n L) := h
  have HI : Hid (TextsAt w (some ⟨g', o', none⟩) m I) := h'
  have HF : Hid (∀ i, i < n → (L i).fits) := hf
  rw [hA] at HLR
  rw [hJ] at HIR
  have HT0 : Hid (Both w ((w.alloc (.cells #[.slice (some ⟨g, o, none⟩) n cap, .slice (some ⟨g', o', none⟩) m cap'] 26)).alloc (.cells #[.slice none 0 0, .slice none 0 0, .map none, .complex .f64 0 0] 72)) #[.slice (some ⟨g, o, none⟩) n cap, .slice (some ⟨g', o', none⟩) m cap'] #[.slice none 0 0, .slice none 0 0, .map none, .complex .f64 0 0]) := T0
  have HLR : Hid (Calls Tryd.prog 66 #[.slice (some ⟨g, o, none⟩) n cap] ((w.alloc (.cells #[.slice (some ⟨g, o, none⟩) n cap, .slice (some ⟨g', o', none⟩) m cap'] 26)).alloc (.cells #[.slice none 0 0, .slice none 0 0, .map none, .complex .f64 0 0] 72)) fun e w' => e = .returned (.bool true) ∧ Below ((w.alloc (.cells #[.slice (some ⟨g, o, none⟩) n cap, .slice (some ⟨g', o', none⟩) m cap'] 26)).alloc (.cells #[.slice none 0 0, .slice none 0 0, .map none, .complex .f64 0 0] 72)).heap.size ((w.alloc (.cells #[.slice (some ⟨g, o, none⟩) n cap, .slice (some ⟨g', o', none⟩) m cap'] 26)).alloc (.cells #[.slice none 0 0, .slice none 0 0, .map none, .complex .f64 0 0] 72)) w') := HLR
  have HIR : Hid (∀ W, Below w.heap.size w W → Calls Tryd.prog 67 #[.slice (some ⟨g', o', none⟩) m cap'] W fun e w' => e = .returned (.bool true) ∧ Below W.heap.size W w') := HIR
  clear h h' hf hfi T0 hA hJ hok
  go_enter Tryd.func38, Tryd.ntmps38
  go_wp2_with fail
  refine HLR.out.mono ?_
  rintro e w1 ⟨rfl, hb1⟩
  have T1 := HT0.out.next hb1
  have b1 := T1.box 1
  simp at b1
  have rf : ∀ j, w1.frozen? ⟨w.heap.size + 1, j, none⟩ = false := fun j => (hb1.frozen (p := ⟨w.heap.size + 1, j, none⟩) (by simp)).trans (fnew' (by simp) j)
  have HRF : Hid (∀ j, w1.frozen? ⟨w.heap.size + 1, j, none⟩ = false) := rf
  have HT1 : Hid (Both w w1 #[.slice (some ⟨g, o, none⟩) n cap, .slice (some ⟨g', o', none⟩) m cap'] #[.slice none 0 0, .slice none 0 0, .map none, .complex .f64 0 0]) := T1
  clear hb1 T1 HLR rf HT0
  go_wp2_with fail
  refine (HIR.out _ HT1.out.bel).mono ?_
  rintro e w2 ⟨rfl, hb2⟩
  have T2 := HT1.out.next hb2
  have HT2 : Hid (Both w w2 #[.slice (some ⟨g, o, none⟩) n cap, .slice (some ⟨g', o', none⟩) m cap'] #[.slice none 0 0, .slice none 0 0, .map none, .complex .f64 0 0]) := T2
  have HRF2 : Hid (∀ j, w2.frozen? ⟨w.heap.size + 1, j, none⟩ = false) := fun j => (hb2.frozen (p := ⟨w.heap.size + 1, j, none⟩) (by have := HT1.out.size; show w.heap.size + 1 < _; omega)).trans (HRF.out j)
  have c0 := T2.box 0
  have c1 := T2.box 1
  simp at c0 c1
  have hs2 : w.heap.size + 2 ≤ w2.heap.size := T2.size
  have hl0 : w.heap.size < w2.heap.size := by omega
  have nl0 : w2.heap.size ≠ w.heap.size := by omega
  have HB2 : Hid (Below w.heap.size w w2) := T2.bel
  have HLa : Hid (LinesAt (w2.alloc (.cells #[.slice none 0 0, .slice none 0 0, .map none, .complex .f64 0 0] 72)) (some ⟨g, o, none⟩) n L) := (HL.out.below T2.bel).below ((Below.refl _ _).alloc (Nat.le_refl _) _)
  clear hb2 T2 b1 HIR HT1 HRF
  go_wp2_with (at_builtin; refine wpList_append_own _ rfl (.tmp 22) (.tmp 24) 23 rfl (w2.heap.size + 1) 46 i0 (.agg #[.string ⟨#[]⟩, .string ⟨#[]⟩, .int .i64 0]) 3 40 Tryd.underlying23 hi hz0 hz1 hz2 rfl (by decide) (.slice none 0 0) 0 [] rfl (World.ownsRow_nil _ _ _ _) ⟨g, o, none⟩ n cap (linesC L n) rfl (linesC_len L n) ?c1 ?c2 ?c3 ?c4 ?c5 ?_)
  case c1 => exact news_lines HLa.out
  case c2 => exact ones_lines L n
  case c3 => unfold maxLen; omega
  case c4 => omega
  case c5 => simp
  intro v1 w3 hown1 hg1 _
  obtain ⟨a1, cp1, rfl, hLA, hbk⟩ := own_linesAt hown1
  have hb3 : Below (w2.heap.size + 1) (w2.alloc (.cells #[.slice none 0 0, .slice none 0 0, .map none, .complex .f64 0 0] 72)) w3 := (Below.refl _ _).grown hg1 (by simp) (fun k hk => by cases hk)
  have cl : ∀ j, w3.cell? ⟨w2.heap.size, j, none⟩ = (#[.slice none 0 0, .slice none 0 0, .map none, .complex .f64 0 0] : Array Value)[j]? := fun j => (hb3.cell (p := ⟨w2.heap.size, j, none⟩) (by simp)).trans (cnew _ _ _ j)
  have fl3 : ∀ j, w3.frozen? ⟨w2.heap.size, j, none⟩ = false := fun j => (hb3.frozen (p := ⟨w2.heap.size, j, none⟩) (by simp)).trans (fnew' rfl j)
  have hs3 : w2.heap.size + 1 ≤ w3.heap.size := by have := hb3.size; simpa using this
  have HB3 : Hid (Below w.heap.size w w3) := (HB2.out.alloc HB2.out.size _).trans (hb3.mono (by omega))
  have HB23 : Hid (Below w2.heap.size w2 w3) := ((Below.refl _ _).alloc (Nat.le_refl _) _).trans (hb3.mono (by omega))
  have HLA : Hid (LinesAt w3 a1 n L) := hLA
  have HBK : Hid (∀ k, a1.map Addr.block = some k → w2.heap.size < k ∧ k < w3.heap.size) := fun k e => by have := hbk k e; omega
  have l0 := cl 0
  have l1 := cl 1
  have l2 := cl 2
  have l3 := cl 3
  simp at l0 l1 l2 l3
  have d1 : w3.cell? ⟨w.heap.size, 1, none⟩ = some (.slice (some ⟨g', o', none⟩) m cap') := (HB23.out.cell (p := ⟨w.heap.size, 1, none⟩) hl0).trans c1
  obtain ⟨l, hl⟩ : ∃ l, l = w2.heap.size := ⟨_, rfl⟩
  have HLW : Hid (l = w2.heap.size) := hl
  rw [← hl] at l0 l1 l2 l3 fl3 HBK hl0 nl0 hs3 hs2 ⊢
  clear hown1 hg1 hbk hLA hb3 cl c0 c1 hl HLa
  have hlw3 : l < w3.heap.size := by omega
  have hll : l ≠ w.heap.size := nl0
  have HIa : Hid (TextsAt (w3.setCell ⟨l, 0, none⟩ (.slice a1 n cp1)) (some ⟨g', o', none⟩) m I) := by
    rcases HI.out with h0 | ⟨g1, o1, e, hg1, _⟩
    · exact Or.inl h0
    · simp at e
      obtain ⟨rfl, rfl⟩ := e
      exact (HI.out.below HB3.out).set (by omega)
  go_wp2_with (at_builtin; refine wpList_append_own _ rfl (.tmp 30) (.tmp 32) 24 rfl w3.heap.size 9 i1 (.string ⟨#[]⟩) 1 16 Tryd.underlying24 hi' hz0' hz1' hz2' rfl (by decide) (.slice none 0 0) 0 [] rfl (World.ownsRow_nil _ _ _ _) ⟨g', o', none⟩ m cap' (textsC I m) rfl (textsC_len I m) ?e1 ?e2 ?e3 ?e4 ?e5 ?_)
  case e1 => exact news_texts HIa.out
  case e2 => exact ones_texts I m
  case e3 => unfold maxLen; omega
  case e4 => omega
  case e5 => simp
  intro v2 w4 hown2 hg2 _
  obtain ⟨a2, cp2, hv2, _, _⟩ := own_texts hown2
  subst hv2
  have hb4 : Below w3.heap.size (w3.setCell ⟨l, 0, none⟩ (.slice a1 n cp1)) w4 := (Below.refl _ _).grown hg2 (by simp) (fun k hk => by cases hk)
  have hb4' : Below (w3.setCell ⟨l, 0, none⟩ (.slice a1 n cp1)).heap.size (w3.setCell ⟨l, 0, none⟩ (.slice a1 n cp1)) w4 := hb4.mono (by simp)
  have D3 : Led w3 l (.slice none 0 0) (.slice none 0 0) (.map none) (.complex .f64 0 0) := ⟨l0, l1, l2, l3, fl3, hlw3⟩
  have D4 := (D3.set0 (.slice a1 n cp1)).below hb4'
  have hnl : ∀ k, a1.map Addr.block = some k → k ≠ l := fun k e => by have := (HBK.out k e).1; omega
  have A4 : LinesAt w4 a1 n L := (HLA.out.setl (j := 0) (u := .slice a1 n cp1) hnl).below hb4'
  have Z2 : Zr w w2 := by
    have q0 := HT2.out.res 0
    have q1 := HT2.out.res 1
    have q2 := HT2.out.res 2
    have q3 := HT2.out.res 3
    simp at q0 q1 q2 q3
    exact ⟨q0, q1, q2, q3, HRF2.out, by have := HT2.out.size; omega⟩
  have Z4 : Zr w w4 := ((Led.below Z2 HB23.out).setl (by omega)).below hb4'
  have HB4 : Hid (Below w.heap.size w w4) := (HB3.out.setCell (by show w.heap.size ≤ l; omega) _).trans (hb4'.mono (by simpa using HB3.out.size))
  have D5 := D4.set1 (.slice a2 m cp2)
  have A5 : LinesAt (w4.setCell ⟨l, 1, none⟩ (.slice a2 m cp2)) a1 n L := A4.setl hnl
  have HD5 : Hid (Led (w4.setCell ⟨l, 1, none⟩ (.slice a2 m cp2)) l (.slice a1 n cp1) (.slice a2 m cp2) (.map none) (.complex .f64 0 0)) := D5
  have HA5 : Hid (LinesAt (w4.setCell ⟨l, 1, none⟩ (.slice a2 m cp2)) a1 n L) := A5
  have HZ5 : Hid (Zr w (w4.setCell ⟨l, 1, none⟩ (.slice a2 m cp2))) := Led.setl Z4 (by omega)
  have HB5 : Hid (Below w.heap.size w (w4.setCell ⟨l, 1, none⟩ (.slice a2 m cp2))) := HB4.out.setCell (by show w.heap.size ≤ l; omega) _
  have HNL : Hid (∀ k, a1.map Addr.block = some k → k ≠ l) := hnl
  have HNR : Hid (∀ k, a1.map Addr.block = some k → k ≠ w.heap.size + 1) := fun k e => by have := (HBK.out k e).1; omega
  obtain ⟨m0, m1, m2, m3, mf, mlt⟩ := D4
  clear hown2 hg2 hb4 hb4' D3 A4 Z2 Z4 HB4 D5 A5 hnl l0 l1 l2 l3 fl3 HLA HBK HB23 HRF2 HT2 HIa d1 HB2 HB3
  go_wp2_with fail
  refine (impl_index l a1 n cp1 L hn60 HF.out (.map none) _ HA5.out HNL.out HD5.out.lt HD5.out.c0 HD5.out.c2 (HD5.out.fz 2)).mono ?_
  rintro e w6 ⟨rfl, M, hM, hc2, hmp, hg6, hsame, hfr⟩
  have D6 : Led w6 l (.slice a1 n cp1) (.slice a2 m cp2) (.map (some M)) (.complex .f64 0 0) := ⟨(hsame 0 (by omega)).trans HD5.out.c0, (hsame 1 (by omega)).trans HD5.out.c1, hc2, (hsame 3 (by omega)).trans HD5.out.c3, fun j => (hfr j).trans (HD5.out.fz j), Nat.lt_of_lt_of_le HD5.out.lt hg6.size⟩
  have HD6 : Hid (Led w6 l (.slice a1 n cp1) (.slice a2 m cp2) (.map (some M)) (.complex .f64 (fl 0) (fl 0))) := D6
  have HMp6 : Hid (w6.ownsMap Tryd.prog 38 (plainElem Tryd.prog 3) M n (placesD L n)) := hmp
  have hMl : M ≠ l := by have := HD5.out.lt; omega
  have hMr : M ≠ w.heap.size + 1 := by have := HD5.out.lt; omega
  clear hmp
  have HA6 : Hid (LinesAt w6 a1 n L) := HA5.out.grown hg6 (fun k e => by simpa using HNL.out k e)
  have HZ6 : Hid (Zr w w6) := Led.grown HZ5.out hg6 (by simp; omega)
  have HB6 : Hid (Below w.heap.size w w6) := HB5.out.grown hg6 HB5.out.size (fun k hk => by simp at hk; omega)
  obtain ⟨e0, e1, e2, e3, ef, elt⟩ := D6
  clear hc2 hg6 hsame hfr hM HD5 HA5 HZ5 HB5 m0 m1 m2 m3 mf mlt
  go_wp2_with fail
  go_loopw [41] (fun x wr => ∃ k r i : Nat, x = .int .i64 (k : Int) ∧ k ≤ n ∧ Hid ((i : Int) - (r : Int) = sumL L k ∧ r ≤ k * 1000000000000 ∧ i ≤ k * 1000000000000) ∧ Hid (Led wr l (.slice a1 n cp1) (.slice a2 m cp2) (.map (some M)) (.complex .f64 (fl r) (fl i))) ∧ Hid (wr.ownsMap Tryd.prog 38 (plainElem Tryd.prog 3) M n (placesD L n)) ∧ Hid (LinesAt wr a1 n L) ∧ Hid (Zr w wr) ∧ Hid (Below w.heap.size w wr)) (fun x _ => n - (intOf x).toNat)
  case atStart => exact ⟨0, 0, 0, rfl, by omega, ⟨rfl, by omega, by omega⟩, HD6, HMp6, HA6, HZ6, HB6⟩
  case round =>
    obtain ⟨k, r, i, rfl, hk, HS, HD, HMp, HA, HZ, HB⟩ := hrel
    by_cases hkn : k < n
    · have p0 : decide (k < n) = true := by simpa using hkn
      have p1 : decide ((k : Int) < (n : Int)) = true := by simpa using hkn
      rcases HA.out with h0 | ⟨g1, o1, rfl, hg1, hc⟩
      · omega
      obtain ⟨c0, c1, c2⟩ := hc k hkn
      obtain ⟨x0, x1⟩ := okLine_m (HOK.out k hkn)
      have HS0 := count_step HS.out.1 HS.out.2.1 HS.out.2.2 x0 x1
      have HSS : Hid ((putI i (L k).m : Int) - (takeI r (L k).m : Int) = sumL L (k + 1) ∧ takeI r (L k).m ≤ (k + 1) * 1000000000000 ∧ putI i (L k).m ≤ (k + 1) * 1000000000000) := HS0
      clear HS0
      have hrb : r ≤ 1000000000000000 := by have := HS.out.2.1; have : k * 1000000000000 ≤ 60 * 1000000000000 := Nat.mul_le_mul_right _ (by omega); omega
      have hib : i ≤ 1000000000000000 := by have := HS.out.2.2; have : k * 1000000000000 ≤ 60 * 1000000000000 := Nat.mul_le_mul_right _ (by omega); omega
      have HCT := fun W (hc : W.cell? ⟨l, 3, none⟩ = some (.complex .f64 (fl r) (fl i))) (hf : W.frozen? ⟨l, 3, none⟩ = false) => impl_count l r i (L k).m x0 x1 hrb hib W hc hf
      obtain ⟨tr, htr⟩ : ∃ t, takeI r (L k).m = t := ⟨_, rfl⟩
      obtain ⟨ti, hti⟩ : ∃ t, putI i (L k).m = t := ⟨_, rfl⟩
      rw [htr, hti] at HSS
      rw [htr, hti] at HCT
      have HCT : Hid (∀ W, W.cell? ⟨l, 3, none⟩ = some (.complex .f64 (fl r) (fl i)) → W.frozen? ⟨l, 3, none⟩ = false → Calls Tryd.prog 69 #[.pointer (some ⟨l, 0, none⟩), .int .i64 (L k).m] W fun e w' => e = .returned (.tuple #[]) ∧ w' = W.setCell ⟨l, 3, none⟩ (.complex .f64 (fl tr) (fl ti))) := HCT
      clear htr hti hc HS x0 x1
      generalize (L k).a = y0 at *
      generalize (L k).s = y1 at *
      generalize (L k).m = y2 at *
      have hBa : Below wr.heap.size wr (wr.alloc (.cells #[.string y0, .string y1, .int .i64 y2] 46)) := (Below.refl _ _).alloc (Nat.le_refl _) _
      have HDa : Hid (Led (wr.alloc (.cells #[.string y0, .string y1, .int .i64 y2] 46)) l (.slice (some ⟨g1, o1, none⟩) n cp1) (.slice a2 m cp2) (.map (some M)) (.complex .f64 (fl r) (fl i))) := HD.out.below hBa
      have HMa : Hid ((wr.alloc (.cells #[.string y0, .string y1, .int .i64 y2] 46)).ownsMap Tryd.prog 38 (plainElem Tryd.prog 3) M n (placesD L n)) := HMp.out.alloc _
      have HAa : Hid (LinesAt (wr.alloc (.cells #[.string y0, .string y1, .int .i64 y2] 46)) (some ⟨g1, o1, none⟩) n L) := HA.out.below hBa
      have HZa : Hid (Zr w (wr.alloc (.cells #[.string y0, .string y1, .int .i64 y2] 46))) := Led.below HZ.out hBa
      have HBa : Hid (Below w.heap.size w (wr.alloc (.cells #[.string y0, .string y1, .int .i64 y2] 46))) := HB.out.trans (hBa.mono HB.out.size)
      clear hBa HD HA HZ HB HMp
      go_wp2_with fail
      refine (HCT.out _ HDa.out.c3 (HDa.out.fz 3)).mono ?_
      rintro e w7 ⟨rfl, hw7⟩
      have HD7 : Hid (Led w7 l (.slice (some ⟨g1, o1, none⟩) n cp1) (.slice a2 m cp2) (.map (some M)) (.complex .f64 (fl tr) (fl ti))) := by rw [hw7]; exact HDa.out.set3 _
      have HM7 : Hid (w7.ownsMap Tryd.prog 38 (plainElem Tryd.prog 3) M n (placesD L n)) := by rw [hw7]; exact HMa.out.kept (setGrown (World.grownBy.refl _ _)) (by simpa using hMl)
      have HA7 : Hid (LinesAt w7 (some ⟨g1, o1, none⟩) n L) := by rw [hw7]; exact HAa.out.setl HNL.out
      have HZ7 : Hid (Zr w w7) := by rw [hw7]; exact Led.setl HZa.out (by omega)
      have HB7 : Hid (Below w.heap.size w w7) := by rw [hw7]; exact HBa.out.setCell (by show w.heap.size ≤ l; omega) _
      clear hw7 HDa HAa HZa HBa HCT c0 c1 c2
      go_wp2_with fail
      go_roundw
      case rel => exact ⟨k + 1, tr, ti, by go_num, by omega, HSS, HD7, HM7, HA7, HZ7, HB7⟩
      case measure => simp [intOf]; omega
    · have p0 : decide (k < n) = false := by simpa using hkn
      have p1 : decide ((k : Int) < (n : Int)) = false := by simpa using hkn
      obtain rfl : k = n := by omega
      have hrb : r ≤ 1000000000000000 := by have := HS.out.2.1; have : k * 1000000000000 ≤ 60 * 1000000000000 := Nat.mul_le_mul_right _ (by omega); omega
      have hib : i ≤ 1000000000000000 := by have := HS.out.2.2; have : k * 1000000000000 ≤ 60 * 1000000000000 := Nat.mul_le_mul_right _ (by omega); omega
      have HST := fun W (hc : W.cell? ⟨l, 3, none⟩ = some (.complex .f64 (fl r) (fl i))) => impl_settled l r i hrb hib W hc
      obtain ⟨er, her⟩ : ∃ er, (if r = i then Value.nilIface else .iface 106 (.agg #[.int .i64 1])) = er := ⟨_, rfl⟩
      have HER : Hid (er = .nilIface ∧ sumL L k = 0 ∨ er = .iface 106 (.agg #[.int .i64 1]) ∧ sumL L k ≠ 0) := by
        have := HS.out.1
        by_cases hri : r = i
        · rw [if_pos hri] at her; exact Or.inl ⟨her.symm, by omega⟩
        · rw [if_neg hri] at her; exact Or.inr ⟨her.symm, by omega⟩
      rw [her] at HST
      have HST : Hid (∀ W, W.cell? ⟨l, 3, none⟩ = some (.complex .f64 (fl r) (fl i)) → Calls Tryd.prog 70 #[.pointer (some ⟨l, 0, none⟩)] W fun e w' => e = .returned er ∧ ∃ d, w' = W.drewN d) := HST
      clear her HS
      obtain ⟨c0, c1, c2, c3, cf, clt⟩ := HD.out
      obtain ⟨z0, z1, z2, z3, zf, zlt⟩ := HZ.out
      have hst := fun (W : World) (x y : Nat) (hc : W.cell? ⟨w.heap.size + 1, 3, none⟩ = some (.complex .f64 0 0)) (hf : W.frozen? ⟨w.heap.size + 1, 3, none⟩ = false) => store_cx ⟨w.heap.size + 1, 3, none⟩ x y _ W hc hf
      have hln : w.heap.size + 1 ≠ l := by omega
      have hln' : l ≠ w.heap.size + 1 := by omega
      generalize fl r = fr at *
      generalize fl i = fi at *
      go_upto_region 12 with fail
      go_region_held3 (fun W => W.cell? ⟨l, 0, none⟩ = some (.slice a1 k cp1) ∧ W.cell? ⟨l, 1, none⟩ = some (.slice a2 m cp2) ∧ W.cell? ⟨l, 2, none⟩ = some (.map (some M)) ∧ W.cell? ⟨l, 3, none⟩ = some (.complex .f64 fr fi)) (go_keep) (first | (go_at_call 70; refine (HST.out _ (by simpa using c3)).mono ?_; rintro e w7 ⟨rfl, d, rfl⟩))
      all_goals
        go_wp2_with fail
        refine bodyPost_ret (v := .tuple #[.agg #[.slice a1 k cp1, .slice a2 m cp2, .map (some M), .complex .f64 fr fi], er]) ?_ rfl ⟨a1, cp1, a2, cp2, M, fr, fi, er, rfl, HER.out, ?_, ?_, ?_⟩
        · simp [results, Tryd.results38, go_sem, z0, z1, z2, z3]
        · exact (HMp.out.kept (four_set wr (1 + d) (w.heap.size + 1) _ _ _ _) (by simpa using hMr))
        · exact HA.out.grown (four_set wr (1 + d) (w.heap.size + 1) _ _ _ _) (fun j e => by have := HNR.out j e; simpa using this)
        · have s1 : w.heap.size ≤ w.heap.size + 1 := by omega
          have hd : Below w.heap.size w (wr.drewN (1 + d)) := ⟨HB.out.os, HB.out.tape, HB.out.output, HB.out.size, HB.out.block⟩
          exact (((hd.setCell s1 _).setCell s1 _).setCell s1 _).setCell s1 _
end Go.Proofs.YtpabdapaegllnaaDoor
