/- A right book copied to be worked on (impl.ledgerOf), with the rows that the copy owns. -/
import Derived.Test.YtpabdapaegllnaaDoorBkH
namespace Go.Proofs.YtpabdapaegllnaaDoor
open Go.RowKit
open Go.Proofs.YtpabdapaegllnaaDoor.Draw

theorem own_low {w : World} {B B' e size n : Nat} {v : Value} {xs : List Value} (hB : B' ≤ B) (h : w.ownsRow B e size v n xs) : w.ownsRow B' e size v n xs := by
  rcases h with ⟨h1, h2 | ⟨g, cap, cur, rfl, hg0, r⟩⟩
  · exact ⟨h1, Or.inl h2⟩
  · exact ⟨h1, Or.inr ⟨g, cap, cur, rfl, Nat.le_trans hB hg0, r⟩⟩
/-- The rows of a book that is worked on. -/
structure Rows2 (W : World) (B : Nat) (a1 : Option Addr) (n c1 : Nat) (L : Nat → Ln) (a2 : Option Addr) (m c2 : Nat) (I : Nat → Tx) : Prop where
  r1 : W.ownsRow B 46 3 (.slice a1 n c1) n (linesC L n)
  r2 : W.ownsRow B 9 1 (.slice a2 m c2) m (textsC I m)
  ne : ∀ k, a1.map Addr.block = some k → a2.map Addr.block = some k → False
theorem ownBlock_map (a : Option Addr) (n c : Nat) : (Value.slice a n c).ownBlock = a.map Addr.block := by cases a <;> rfl
theorem Rows2.kept {W W' : World} {B : Nat} {a1 : Option Addr} {n c1 : Nat} {L : Nat → Ln} {a2 : Option Addr} {m c2 : Nat} {I : Nat → Tx} {row : Option Nat} (h : Rows2 W B a1 n c1 L a2 m c2 I) (hg : W.grownBy W' row) (h1 : ∀ k, a1.map Addr.block = some k → some k ≠ row) (h2 : ∀ k, a2.map Addr.block = some k → some k ≠ row) : Rows2 W' B a1 n c1 L a2 m c2 I := by
  refine ⟨h.r1.kept hg ?_, h.r2.kept hg ?_, h.ne⟩
  · rw [ownBlock_map]
    cases e : a1.map Addr.block with
    | none => exact Or.inl rfl
    | some k => exact Or.inr (h1 k e)
  · rw [ownBlock_map]
    cases e : a2.map Addr.block with
    | none => exact Or.inl rfl
    | some k => exact Or.inr (h2 k e)
theorem Rows2.below {W W' : World} {B : Nat} {a1 : Option Addr} {n c1 : Nat} {L : Nat → Ln} {a2 : Option Addr} {m c2 : Nat} {I : Nat → Tx} (h : Rows2 W B a1 n c1 L a2 m c2 I) (hb : Below W.heap.size W W') : Rows2 W' B a1 n c1 L a2 m c2 I := ⟨own_below h.r1 hb, own_below h.r2 hb, h.ne⟩
theorem Rows2.lt1 {W : World} {B : Nat} {a1 : Option Addr} {n c1 : Nat} {L : Nat → Ln} {a2 : Option Addr} {m c2 : Nat} {I : Nat → Tx} (h : Rows2 W B a1 n c1 L a2 m c2 I) (k : Nat) (e : a1.map Addr.block = some k) : B ≤ k ∧ k < W.heap.size := h.r1.lt k (by rw [ownBlock_map]; exact e)
theorem Rows2.lt2 {W : World} {B : Nat} {a1 : Option Addr} {n c1 : Nat} {L : Nat → Ln} {a2 : Option Addr} {m c2 : Nat} {I : Nat → Tx} (h : Rows2 W B a1 n c1 L a2 m c2 I) (k : Nat) (e : a2.map Addr.block = some k) : B ≤ k ∧ k < W.heap.size := h.r2.lt k (by rw [ownBlock_map]; exact e)
/-- What a ledger has moved. -/
def Moved (fr fi : Nat) (t : Int) (K : Nat) : Prop := ∃ r i : Nat, fr = fl r ∧ fi = fl i ∧ (i : Int) - (r : Int) = t ∧ r ≤ K ∧ i ≤ K
set_option maxRecDepth 100000 in
set_option maxHeartbeats 16000000 in
theorem impl_ledger_own (g o g' o' n m cap cap' : Nat) (L : Nat → Ln) (I : Nat → Tx) (hf : ∀ i, i < n → (L i).fits) (hfi : ∀ i, i < m → (I i).fits) (hA : linesB n L = true) (hJ : idsB m I = true) (w : World) (h : LinesAt w (some ⟨g, o, none⟩) n L) (h' : TextsAt w (some ⟨g', o', none⟩) m I) :
    Calls Tryd.prog 38 #[.agg #[.slice (some ⟨g, o, none⟩) n cap, .slice (some ⟨g', o', none⟩) m cap']] w fun e w' => ∃ (a1 : Option Addr) (c1 : Nat) (a2 : Option Addr) (c2 M fr fi : Nat) (er : Value), e = .returned (.tuple #[.agg #[.slice a1 n c1, .slice a2 m c2, .map (some M), .complex .f64 fr fi], er]) ∧ (er = .nilIface ∧ sumL L n = 0 ∨ er = .iface 106 (.agg #[.int .i64 1]) ∧ sumL L n ≠ 0) ∧ w'.ownsMap Tryd.prog 38 (plainElem Tryd.prog 3) M n (placesD L n) ∧ LinesAt w' a1 n L ∧ Below w.heap.size w w' ∧ Rows2 w' w.heap.size a1 n c1 L a2 m c2 I ∧ (w.heap.size ≤ M ∧ (∀ k, a1.map Addr.block = some k → k ≠ M) ∧ ∀ k, a2.map Addr.block = some k → k ≠ M) ∧ Moved fr fi (sumL L n) (n * 1000000000000) := by
  obtain ⟨i0, hi, hz0, hz1, hz2⟩ := info_parts infoLn
  obtain ⟨i1, hi', hz0', hz1', hz2'⟩ := info_parts infoTx
  obtain ⟨hn60, hok⟩ := (linesB_iff n L).1 hA
  obtain ⟨hm100, _⟩ := (idsB_iff m I).1 hJ
  have HOK : Hid (∀ j, j < n → okLine L j = true) := hok
  have T0 := two_now w #[.slice (some ⟨g, o, none⟩) n cap, .slice (some ⟨g', o', none⟩) m cap'] #[.slice none 0 0, .slice none 0 0, .map none, .complex .f64 0 0] 26 72
  have HLR := impl_lines (some ⟨g, o, none⟩) n cap L (by omega) hf ((w.alloc (.cells #[.slice (some ⟨g, o, none⟩) n cap, .slice (some ⟨g', o', none⟩) m cap'] 26)).alloc (.cells #[.slice none 0 0, .slice none 0 0, .map none, .complex .f64 0 0] 72)) (h.below T0.bel)
  have HIR := fun W (hW : Below w.heap.size w W) => impl_ids (some ⟨g', o', none⟩) m cap' I (by omega) hfi W (h'.below hW)
  have HL : Hid (LinesAt w (some ⟨g, o, none⟩) n L) := h
  have HI : Hid (TextsAt w (some ⟨g', o', none⟩) m I) := h'
  have HF : Hid (∀ i, i < n → (L i).fits) := hf
  rw [hA] at HLR
  rw [hJ] at HIR
  have HT0 : Hid (Both w ((w.alloc (.cells #[.slice (some ⟨g, o, none⟩) n cap, .slice (some ⟨g', o', none⟩) m cap'] 26)).alloc (.cells #[.slice none 0 0, .slice none 0 0, .map none, .complex .f64 0 0] 72)) #[.slice (some ⟨g, o, none⟩) n cap, .slice (some ⟨g', o', none⟩) m cap'] #[.slice none 0 0, .slice none 0 0, .map none, .complex .f64 0 0]) := T0
  have HLR : Hid (Calls Tryd.prog 66 #[.slice (some ⟨g, o, none⟩) n cap] ((w.alloc (.cells #[.slice (some ⟨g, o, none⟩) n cap, .slice (some ⟨g', o', none⟩) m cap'] 26)).alloc (.cells #[.slice none 0 0, .slice none 0 0, .map none, .complex .f64 0 0] 72)) fun e w' => e = .returned (.bool true) ∧ Below ((w.alloc (.cells #[.slice (some ⟨g, o, none⟩) n cap, .slice (some ⟨g', o', none⟩) m cap'] 26)).alloc (.cells #[.slice none 0 0, .slice none 0 0, .map none, .complex .f64 0 0] 72)).heap.size ((w.alloc (.cells #[.slice (some ⟨g, o, none⟩) n cap, .slice (some ⟨g', o', none⟩) m cap'] 26)).alloc (.cells #[.slice none 0 0, .slice none 0 0, .map none, .complex .f64 0 0] 72)) w') := HLR
  have HIR : Hid (∀ W, Below w.heap.size w W → Calls Tryd.prog 67 #[.slice (some ⟨g', o', none⟩) m cap'] W fun e w' => e = .returned (.bool true) ∧ Below W.heap.size W w') := HIR
  clear h h' hf hfi T0 hA hJ hok
  go_enter Tryd.func38, Tryd.ntmps38
  go_wp2_with fail
  refine HLR.out.mono ?_
  rintro e w1 ⟨rfl, hb1⟩
  have T1 := HT0.out.next hb1
  have b1 := T1.box 1
  simp at b1
  have rf : ∀ j, w1.frozen? ⟨w.heap.size + 1, j, none⟩ = false := fun j => (hb1.frozen (p := ⟨w.heap.size + 1, j, none⟩) (by simp)).trans (fnew' (by simp) j)
  have HRF : Hid (∀ j, w1.frozen? ⟨w.heap.size + 1, j, none⟩ = false) := rf
  have HT1 : Hid (Both w w1 #[.slice (some ⟨g, o, none⟩) n cap, .slice (some ⟨g', o', none⟩) m cap'] #[.slice none 0 0, .slice none 0 0, .map none, .complex .f64 0 0]) := T1
  clear hb1 T1 HLR rf HT0
  go_wp2_with fail
  refine (HIR.out _ HT1.out.bel).mono ?_
  rintro e w2 ⟨rfl, hb2⟩
  have T2 := HT1.out.next hb2
  have HT2 : Hid (Both w w2 #[.slice (some ⟨g, o, none⟩) n cap, .slice (some ⟨g', o', none⟩) m cap'] #[.slice none 0 0, .slice none 0 0, .map none, .complex .f64 0 0]) := T2
  have HRF2 : Hid (∀ j, w2.frozen? ⟨w.heap.size + 1, j, none⟩ = false) := fun j => (hb2.frozen (p := ⟨w.heap.size + 1, j, none⟩) (by have := HT1.out.size; show w.heap.size + 1 < _; omega)).trans (HRF.out j)
  have c0 := T2.box 0
  have c1 := T2.box 1
  simp at c0 c1
  have hs2 : w.heap.size + 2 ≤ w2.heap.size := T2.size
  have hl0 : w.heap.size < w2.heap.size := by omega
  have nl0 : w2.heap.size ≠ w.heap.size := by omega
  have HB2 : Hid (Below w.heap.size w w2) := T2.bel
  have HLa : Hid (LinesAt (w2.alloc (.cells #[.slice none 0 0, .slice none 0 0, .map none, .complex .f64 0 0] 72)) (some ⟨g, o, none⟩) n L) := (HL.out.below T2.bel).below ((Below.refl _ _).alloc (Nat.le_refl _) _)
  clear hb2 T2 b1 HIR HT1 HRF
  go_wp2_with (at_builtin; refine wpList_append_own _ rfl (.tmp 22) (.tmp 24) 23 rfl (w2.heap.size + 1) 46 i0 (.agg #[.string ⟨#[]⟩, .string ⟨#[]⟩, .int .i64 0]) 3 40 Tryd.underlying23 hi hz0 hz1 hz2 rfl (by decide) (.slice none 0 0) 0 [] rfl (World.ownsRow_nil _ _ _ _) ⟨g, o, none⟩ n cap (linesC L n) rfl (linesC_len L n) ?c1 ?c2 ?c3 ?c4 ?c5 ?_)
  case c1 => exact news_lines HLa.out
  case c2 => exact ones_lines L n
  case c3 => unfold maxLen; omega
  case c4 => omega
  case c5 => simp
  intro v1 w3 hown1 hg1 _
  obtain ⟨a1, cp1, rfl, hLA, hbk⟩ := own_linesAt hown1
  have hb3 : Below (w2.heap.size + 1) (w2.alloc (.cells #[.slice none 0 0, .slice none 0 0, .map none, .complex .f64 0 0] 72)) w3 := (Below.refl _ _).grown hg1 (by simp) (fun k hk => by cases hk)
  have cl : ∀ j, w3.cell? ⟨w2.heap.size, j, none⟩ = (#[.slice none 0 0, .slice none 0 0, .map none, .complex .f64 0 0] : Array Value)[j]? := fun j => (hb3.cell (p := ⟨w2.heap.size, j, none⟩) (by simp)).trans (cnew _ _ _ j)
  have fl3 : ∀ j, w3.frozen? ⟨w2.heap.size, j, none⟩ = false := fun j => (hb3.frozen (p := ⟨w2.heap.size, j, none⟩) (by simp)).trans (fnew' rfl j)
  have hs3 : w2.heap.size + 1 ≤ w3.heap.size := by have := hb3.size; simpa using this
  have HB3 : Hid (Below w.heap.size w w3) := (HB2.out.alloc HB2.out.size _).trans (hb3.mono (by omega))
  have HB23 : Hid (Below w2.heap.size w2 w3) := ((Below.refl _ _).alloc (Nat.le_refl _) _).trans (hb3.mono (by omega))
  have HLA : Hid (LinesAt w3 a1 n L) := hLA
  have HBK : Hid (∀ k, a1.map Addr.block = some k → w2.heap.size < k ∧ k < w3.heap.size) := fun k e => by have := hbk k e; omega
  have l0 := cl 0
  have l1 := cl 1
  have l2 := cl 2
  have l3 := cl 3
  simp at l0 l1 l2 l3
  have d1 : w3.cell? ⟨w.heap.size, 1, none⟩ = some (.slice (some ⟨g', o', none⟩) m cap') := (HB23.out.cell (p := ⟨w.heap.size, 1, none⟩) hl0).trans c1
  have HR1 : Hid (w3.ownsRow w.heap.size 46 3 (.slice a1 n cp1) n (linesC L n)) := own_low (B := w2.heap.size + 1) (by omega) (by simpa using hown1)
  obtain ⟨l, hl⟩ : ∃ l, l = w2.heap.size := ⟨_, rfl⟩
  have HLW : Hid (l = w2.heap.size) := hl
  rw [← hl] at l0 l1 l2 l3 fl3 HBK hl0 nl0 hs3 hs2 ⊢
  clear hown1 hg1 hbk hLA hb3 cl c0 c1 hl HLa
  have hlw3 : l < w3.heap.size := by omega
  have hll : l ≠ w.heap.size := nl0
  have HIa : Hid (TextsAt (w3.setCell ⟨l, 0, none⟩ (.slice a1 n cp1)) (some ⟨g', o', none⟩) m I) := by
    rcases HI.out with h0 | ⟨g1, o1, e, hg1, _⟩
    · exact Or.inl h0
    · simp at e
      obtain ⟨rfl, rfl⟩ := e
      exact (HI.out.below HB3.out).set (by omega)
  go_wp2_with (at_builtin; refine wpList_append_own _ rfl (.tmp 30) (.tmp 32) 24 rfl w3.heap.size 9 i1 (.string ⟨#[]⟩) 1 16 Tryd.underlying24 hi' hz0' hz1' hz2' rfl (by decide) (.slice none 0 0) 0 [] rfl (World.ownsRow_nil _ _ _ _) ⟨g', o', none⟩ m cap' (textsC I m) rfl (textsC_len I m) ?e1 ?e2 ?e3 ?e4 ?e5 ?_)
  case e1 => exact news_texts HIa.out
  case e2 => exact ones_texts I m
  case e3 => unfold maxLen; omega
  case e4 => omega
  case e5 => simp
  intro v2 w4 hown2 hg2 _
  obtain ⟨a2, cp2, hv2, _, hbk2⟩ := own_texts hown2
  subst hv2
  have hb4 : Below w3.heap.size (w3.setCell ⟨l, 0, none⟩ (.slice a1 n cp1)) w4 := (Below.refl _ _).grown hg2 (by simp) (fun k hk => by cases hk)
  have hb4' : Below (w3.setCell ⟨l, 0, none⟩ (.slice a1 n cp1)).heap.size (w3.setCell ⟨l, 0, none⟩ (.slice a1 n cp1)) w4 := hb4.mono (by simp)
  have D3 : Led w3 l (.slice none 0 0) (.slice none 0 0) (.map none) (.complex .f64 0 0) := ⟨l0, l1, l2, l3, fl3, hlw3⟩
  have D4 := (D3.set0 (.slice a1 n cp1)).below hb4'
  have hnl : ∀ k, a1.map Addr.block = some k → k ≠ l := fun k e => by have := (HBK.out k e).1; omega
  have A4 : LinesAt w4 a1 n L := (HLA.out.setl (j := 0) (u := .slice a1 n cp1) hnl).below hb4'
  have Z2 : Zr w w2 := by
    have q0 := HT2.out.res 0
    have q1 := HT2.out.res 1
    have q2 := HT2.out.res 2
    have q3 := HT2.out.res 3
    simp at q0 q1 q2 q3
    exact ⟨q0, q1, q2, q3, HRF2.out, by have := HT2.out.size; omega⟩
  have Z4 : Zr w w4 := ((Led.below Z2 HB23.out).setl (by omega)).below hb4'
  have HB4 : Hid (Below w.heap.size w w4) := (HB3.out.setCell (by show w.heap.size ≤ l; omega) _).trans (hb4'.mono (by simpa using HB3.out.size))
  have D5 := D4.set1 (.slice a2 m cp2)
  have A5 : LinesAt (w4.setCell ⟨l, 1, none⟩ (.slice a2 m cp2)) a1 n L := A4.setl hnl
  have HD5 : Hid (Led (w4.setCell ⟨l, 1, none⟩ (.slice a2 m cp2)) l (.slice a1 n cp1) (.slice a2 m cp2) (.map none) (.complex .f64 0 0)) := D5
  have HA5 : Hid (LinesAt (w4.setCell ⟨l, 1, none⟩ (.slice a2 m cp2)) a1 n L) := A5
  have HZ5 : Hid (Zr w (w4.setCell ⟨l, 1, none⟩ (.slice a2 m cp2))) := Led.setl Z4 (by omega)
  have HB5 : Hid (Below w.heap.size w (w4.setCell ⟨l, 1, none⟩ (.slice a2 m cp2))) := HB4.out.setCell (by show w.heap.size ≤ l; omega) _
  have HNL : Hid (∀ k, a1.map Addr.block = some k → k ≠ l) := hnl
  have HNR : Hid (∀ k, a1.map Addr.block = some k → k ≠ w.heap.size + 1) := fun k e => by have := (HBK.out k e).1; omega
  obtain ⟨m0, m1, m2, m3, mf, mlt⟩ := D4
  have hr2 : w4.ownsRow w.heap.size 9 1 (.slice a2 m cp2) m (textsC I m) := own_low (B := w3.heap.size) (by omega) (by simpa using hown2)
  have hr1 : w4.ownsRow w.heap.size 46 3 (.slice a1 n cp1) n (linesC L n) := own_below (HR1.out.kept (setGrown (g := l) (j := 0) (u := .slice a1 n cp1) (World.grownBy.refl _ _)) (by
    rw [ownBlock_map]
    cases e : a1.map Addr.block with
    | none => exact Or.inl rfl
    | some k => exact Or.inr (by have := hnl k e; simpa using this))) hb4'
  have hn2 : ∀ k, a2.map Addr.block = some k → w3.heap.size ≤ k := fun k e => (hbk2 k e).1
  have HW5 : Hid (Rows2 (w4.setCell ⟨l, 1, none⟩ (.slice a2 m cp2)) w.heap.size a1 n cp1 L a2 m cp2 I) := Rows2.kept (row := some l) ⟨hr1, hr2, fun k e e' => by have := (HBK.out k e).2; have := hn2 k e'; omega⟩ (setGrown (World.grownBy.refl _ _)) (fun k e => by have := hnl k e; simpa using this) (fun k e => by have := hn2 k e; simp; omega)
  have HN2 : Hid (∀ k, a2.map Addr.block = some k → k ≠ l ∧ k ≠ w.heap.size + 1) := fun k e => by have := hn2 k e; omega
  clear hr1 hr2 hn2 hbk2 HR1
  clear hown2 hg2 hb4 hb4' D3 A4 Z2 Z4 HB4 D5 A5 hnl l0 l1 l2 l3 fl3 HLA HBK HB23 HRF2 HT2 HIa d1 HB2 HB3
  go_wp2_with fail
  refine (impl_index l a1 n cp1 L hn60 HF.out (.map none) _ HA5.out HNL.out HD5.out.lt HD5.out.c0 HD5.out.c2 (HD5.out.fz 2)).mono ?_
  rintro e w6 ⟨rfl, M, hM, hc2, hmp, hg6, hsame, hfr⟩
  have D6 : Led w6 l (.slice a1 n cp1) (.slice a2 m cp2) (.map (some M)) (.complex .f64 0 0) := ⟨(hsame 0 (by omega)).trans HD5.out.c0, (hsame 1 (by omega)).trans HD5.out.c1, hc2, (hsame 3 (by omega)).trans HD5.out.c3, fun j => (hfr j).trans (HD5.out.fz j), Nat.lt_of_lt_of_le HD5.out.lt hg6.size⟩
  have HD6 : Hid (Led w6 l (.slice a1 n cp1) (.slice a2 m cp2) (.map (some M)) (.complex .f64 (fl 0) (fl 0))) := D6
  have HMp6 : Hid (w6.ownsMap Tryd.prog 38 (plainElem Tryd.prog 3) M n (placesD L n)) := hmp
  have hMl : M ≠ l := by have := HD5.out.lt; omega
  have hMr : M ≠ w.heap.size + 1 := by have := HD5.out.lt; omega
  clear hmp
  have HA6 : Hid (LinesAt w6 a1 n L) := HA5.out.grown hg6 (fun k e => by simpa using HNL.out k e)
  have HW6 : Hid (Rows2 w6 w.heap.size a1 n cp1 L a2 m cp2 I) := HW5.out.kept hg6 (fun k e => by simpa using HNL.out k e) (fun k e => by simpa using (HN2.out k e).1)
  have HMM : Hid (w.heap.size ≤ M ∧ (∀ k, a1.map Addr.block = some k → k ≠ M) ∧ ∀ k, a2.map Addr.block = some k → k ≠ M) := ⟨by have := HB5.out.size; omega, fun k e => by have := HW5.out.lt1 k e; omega, fun k e => by have := HW5.out.lt2 k e; omega⟩
  have HZ6 : Hid (Zr w w6) := Led.grown HZ5.out hg6 (by simp; omega)
  have HB6 : Hid (Below w.heap.size w w6) := HB5.out.grown hg6 HB5.out.size (fun k hk => by simp at hk; omega)
  obtain ⟨e0, e1, e2, e3, ef, elt⟩ := D6
  clear hc2 hg6 hsame hfr hM HD5 HA5 HZ5 HB5 HW5 m0 m1 m2 m3 mf mlt
  go_wp2_with fail
  go_loopw [41] (fun x wr => ∃ k r i : Nat, x = .int .i64 (k : Int) ∧ k ≤ n ∧ Hid ((i : Int) - (r : Int) = sumL L k ∧ r ≤ k * 1000000000000 ∧ i ≤ k * 1000000000000) ∧ Hid (Led wr l (.slice a1 n cp1) (.slice a2 m cp2) (.map (some M)) (.complex .f64 (fl r) (fl i))) ∧ Hid (wr.ownsMap Tryd.prog 38 (plainElem Tryd.prog 3) M n (placesD L n)) ∧ Hid (LinesAt wr a1 n L) ∧ Hid (Zr w wr) ∧ Hid (Below w.heap.size w wr) ∧ Hid (Rows2 wr w.heap.size a1 n cp1 L a2 m cp2 I)) (fun x _ => n - (intOf x).toNat)
  case atStart => exact ⟨0, 0, 0, rfl, by omega, ⟨rfl, by omega, by omega⟩, HD6, HMp6, HA6, HZ6, HB6, HW6⟩
  case round =>
    obtain ⟨k, r, i, rfl, hk, HS, HD, HMp, HA, HZ, HB, HW⟩ := hrel
    by_cases hkn : k < n
    · have p0 : decide (k < n) = true := by simpa using hkn
      have p1 : decide ((k : Int) < (n : Int)) = true := by simpa using hkn
      rcases HA.out with h0 | ⟨g1, o1, rfl, hg1, hc⟩
      · omega
      obtain ⟨c0, c1, c2⟩ := hc k hkn
      obtain ⟨x0, x1⟩ := okLine_m (HOK.out k hkn)
      have HS0 := count_step HS.out.1 HS.out.2.1 HS.out.2.2 x0 x1
      have HSS : Hid ((putI i (L k).m : Int) - (takeI r (L k).m : Int) = sumL L (k + 1) ∧ takeI r (L k).m ≤ (k + 1) * 1000000000000 ∧ putI i (L k).m ≤ (k + 1) * 1000000000000) := HS0
      clear HS0
      have hrb : r ≤ 1000000000000000 := by have := HS.out.2.1; have : k * 1000000000000 ≤ 60 * 1000000000000 := Nat.mul_le_mul_right _ (by omega); omega
      have hib : i ≤ 1000000000000000 := by have := HS.out.2.2; have : k * 1000000000000 ≤ 60 * 1000000000000 := Nat.mul_le_mul_right _ (by omega); omega
      have HCT := fun W (hc : W.cell? ⟨l, 3, none⟩ = some (.complex .f64 (fl r) (fl i))) (hf : W.frozen? ⟨l, 3, none⟩ = false) => impl_count l r i (L k).m x0 x1 hrb hib W hc hf
      obtain ⟨tr, htr⟩ : ∃ t, takeI r (L k).m = t := ⟨_, rfl⟩
      obtain ⟨ti, hti⟩ : ∃ t, putI i (L k).m = t := ⟨_, rfl⟩
      rw [htr, hti] at HSS
      rw [htr, hti] at HCT
      have HCT : Hid (∀ W, W.cell? ⟨l, 3, none⟩ = some (.complex .f64 (fl r) (fl i)) → W.frozen? ⟨l, 3, none⟩ = false → Calls Tryd.prog 69 #[.pointer (some ⟨l, 0, none⟩), .int .i64 (L k).m] W fun e w' => e = .returned (.tuple #[]) ∧ w' = W.setCell ⟨l, 3, none⟩ (.complex .f64 (fl tr) (fl ti))) := HCT
      clear htr hti hc HS x0 x1
      generalize (L k).a = y0 at *
      generalize (L k).s = y1 at *
      generalize (L k).m = y2 at *
      have hBa : Below wr.heap.size wr (wr.alloc (.cells #[.string y0, .string y1, .int .i64 y2] 46)) := (Below.refl _ _).alloc (Nat.le_refl _) _
      have HDa : Hid (Led (wr.alloc (.cells #[.string y0, .string y1, .int .i64 y2] 46)) l (.slice (some ⟨g1, o1, none⟩) n cp1) (.slice a2 m cp2) (.map (some M)) (.complex .f64 (fl r) (fl i))) := HD.out.below hBa
      have HMa : Hid ((wr.alloc (.cells #[.string y0, .string y1, .int .i64 y2] 46)).ownsMap Tryd.prog 38 (plainElem Tryd.prog 3) M n (placesD L n)) := HMp.out.alloc _
      have HAa : Hid (LinesAt (wr.alloc (.cells #[.string y0, .string y1, .int .i64 y2] 46)) (some ⟨g1, o1, none⟩) n L) := HA.out.below hBa
      have HWa : Hid (Rows2 (wr.alloc (.cells #[.string y0, .string y1, .int .i64 y2] 46)) w.heap.size (some ⟨g1, o1, none⟩) n cp1 L a2 m cp2 I) := HW.out.below hBa
      have HZa : Hid (Zr w (wr.alloc (.cells #[.string y0, .string y1, .int .i64 y2] 46))) := Led.below HZ.out hBa
      have HBa : Hid (Below w.heap.size w (wr.alloc (.cells #[.string y0, .string y1, .int .i64 y2] 46))) := HB.out.trans (hBa.mono HB.out.size)
      clear hBa HD HA HZ HB HMp HW
      go_wp2_with fail
      refine (HCT.out _ HDa.out.c3 (HDa.out.fz 3)).mono ?_
      rintro e w7 ⟨rfl, hw7⟩
      have HD7 : Hid (Led w7 l (.slice (some ⟨g1, o1, none⟩) n cp1) (.slice a2 m cp2) (.map (some M)) (.complex .f64 (fl tr) (fl ti))) := by rw [hw7]; exact HDa.out.set3 _
      have HM7 : Hid (w7.ownsMap Tryd.prog 38 (plainElem Tryd.prog 3) M n (placesD L n)) := by rw [hw7]; exact HMa.out.kept (setGrown (World.grownBy.refl _ _)) (by simpa using hMl)
      have HA7 : Hid (LinesAt w7 (some ⟨g1, o1, none⟩) n L) := by rw [hw7]; exact HAa.out.setl HNL.out
      have HW7 : Hid (Rows2 w7 w.heap.size (some ⟨g1, o1, none⟩) n cp1 L a2 m cp2 I) := by rw [hw7]; exact HWa.out.kept (row := some l) (setGrown (World.grownBy.refl _ _)) (fun k e => by have := HNL.out k e; simpa using this) (fun k e => by have := (HN2.out k e).1; simpa using this)
      have HZ7 : Hid (Zr w w7) := by rw [hw7]; exact Led.setl HZa.out (by omega)
      have HB7 : Hid (Below w.heap.size w w7) := by rw [hw7]; exact HBa.out.setCell (by show w.heap.size ≤ l; omega) _
      clear hw7 HDa HAa HZa HBa HWa HCT c0 c1 c2
      go_wp2_with fail
      go_roundw
      case rel => exact ⟨k + 1, tr, ti, by go_num, by omega, HSS, HD7, HM7, HA7, HZ7, HB7, HW7⟩
      case measure => simp [intOf]; omega
    · have p0 : decide (k < n) = false := by simpa using hkn
      have p1 : decide ((k : Int) < (n : Int)) = false := by simpa using hkn
      obtain rfl : k = n := by omega
      have hrb : r ≤ 1000000000000000 := by have := HS.out.2.1; have : k * 1000000000000 ≤ 60 * 1000000000000 := Nat.mul_le_mul_right _ (by omega); omega
      have hib : i ≤ 1000000000000000 := by have := HS.out.2.2; have : k * 1000000000000 ≤ 60 * 1000000000000 := Nat.mul_le_mul_right _ (by omega); omega
      have HST := fun W (hc : W.cell? ⟨l, 3, none⟩ = some (.complex .f64 (fl r) (fl i))) => impl_settled l r i hrb hib W hc
      obtain ⟨er, her⟩ : ∃ er, (if r = i then Value.nilIface else .iface 106 (.agg #[.int .i64 1])) = er := ⟨_, rfl⟩
      have HER : Hid (er = .nilIface ∧ sumL L k = 0 ∨ er = .iface 106 (.agg #[.int .i64 1]) ∧ sumL L k ≠ 0) := by
        have := HS.out.1
        by_cases hri : r = i
        · rw [if_pos hri] at her; exact Or.inl ⟨her.symm, by omega⟩
        · rw [if_neg hri] at her; exact Or.inr ⟨her.symm, by omega⟩
      rw [her] at HST
      have HST : Hid (∀ W, W.cell? ⟨l, 3, none⟩ = some (.complex .f64 (fl r) (fl i)) → Calls Tryd.prog 70 #[.pointer (some ⟨l, 0, none⟩)] W fun e w' => e = .returned er ∧ ∃ d, w' = W.drewN d) := HST
      have HMV : Hid (Moved (fl r) (fl i) (sumL L k) (k * 1000000000000)) := ⟨r, i, rfl, rfl, HS.out.1, HS.out.2.1, HS.out.2.2⟩
      clear her HS
      obtain ⟨c0, c1, c2, c3, cf, clt⟩ := HD.out
      obtain ⟨z0, z1, z2, z3, zf, zlt⟩ := HZ.out
      have hst := fun (W : World) (x y : Nat) (hc : W.cell? ⟨w.heap.size + 1, 3, none⟩ = some (.complex .f64 0 0)) (hf : W.frozen? ⟨w.heap.size + 1, 3, none⟩ = false) => store_cx ⟨w.heap.size + 1, 3, none⟩ x y _ W hc hf
      have hln : w.heap.size + 1 ≠ l := by omega
      have hln' : l ≠ w.heap.size + 1 := by omega
      generalize fl r = fr at *
      generalize fl i = fi at *
      go_upto_region 12 with fail
      go_region_held3 (fun W => W.cell? ⟨l, 0, none⟩ = some (.slice a1 k cp1) ∧ W.cell? ⟨l, 1, none⟩ = some (.slice a2 m cp2) ∧ W.cell? ⟨l, 2, none⟩ = some (.map (some M)) ∧ W.cell? ⟨l, 3, none⟩ = some (.complex .f64 fr fi)) (go_keep) (first | (go_at_call 70; refine (HST.out _ (by simpa using c3)).mono ?_; rintro e w7 ⟨rfl, d, rfl⟩))
      all_goals
        go_wp2_with fail
        refine bodyPost_ret (v := .tuple #[.agg #[.slice a1 k cp1, .slice a2 m cp2, .map (some M), .complex .f64 fr fi], er]) ?_ rfl ⟨a1, cp1, a2, cp2, M, fr, fi, er, rfl, HER.out, ?_, ?_, ?_, ?_, HMM.out, HMV.out⟩
        · simp [results, Tryd.results38, go_sem, z0, z1, z2, z3]
        · exact (HMp.out.kept (four_set wr (1 + d) (w.heap.size + 1) _ _ _ _) (by simpa using hMr))
        · exact HA.out.grown (four_set wr (1 + d) (w.heap.size + 1) _ _ _ _) (fun j e => by have := HNR.out j e; simpa using this)
        · have s1 : w.heap.size ≤ w.heap.size + 1 := by omega
          have hd : Below w.heap.size w (wr.drewN (1 + d)) := ⟨HB.out.os, HB.out.tape, HB.out.output, HB.out.size, HB.out.block⟩
          exact (((hd.setCell s1 _).setCell s1 _).setCell s1 _).setCell s1 _
        · exact HW.out.kept (four_set wr (1 + d) (w.heap.size + 1) _ _ _ _) (fun j e => by have := HNR.out j e; simpa using this) (fun j e => by have := (HN2.out j e).2; simpa using this)
end Go.Proofs.YtpabdapaegllnaaDoor
