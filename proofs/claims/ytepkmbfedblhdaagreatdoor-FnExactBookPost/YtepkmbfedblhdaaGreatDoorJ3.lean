/- A right book copied to be worked on (impl.ledgerOf), with the rows that the copy owns. · Lines of a right book by their spots: no program. · The place of a line among others: no program in it. · Lists of legs: their sizes, copies, comparison, marks: what the laws' helpers do. · Legs copied, held against each other and marked: what the laws' helpers do. · Are legs right (spec.LegsRight, impl.LegsRight)? What each call does, and the law. · Right books (spec.BookRight): what the call does. -/
import Derived.Test.YtepkmbfedblhdaaGreatDoorJ2
import Derived.Maps.Views
import Derived.ChangeKeys
import Derived.Test.YtepkmbfedblhdaaGreatDoorJ1
import Derived.Deep.RegionHeld3
import Derived.BigQuiet
import Derived.Deep.DeepCutAuto
import Derived.Deep.CutRange
import Derived.Deep.QuietTactic
namespace Go.Proofs.YtepkmbfedblhdaaGreatDoor
open Go.RowKit
open Go.Proofs.YtepkmbfedblhdaaGreatDoor.Draw

theorem own_low {w : World} {B B' e size n : Nat} {v : Value} {xs : List Value} (hB : B' ≤ B) (h : w.ownsRow B e size v n xs) : w.ownsRow B' e size v n xs := by
  rcases h with ⟨h1, h2 | ⟨g, cap, cur, rfl, hg0, r⟩⟩
  · exact ⟨h1, Or.inl h2⟩
  · exact ⟨h1, Or.inr ⟨g, cap, cur, rfl, Nat.le_trans hB hg0, r⟩⟩
/-- The rows of a book that is worked on. -/
structure Rows2 (W : World) (B : Nat) (a1 : Option Addr) (n c1 : Nat) (L : Nat → Ln) (a2 : Option Addr) (m c2 : Nat) (I : Nat → Tx) : Prop where
  r1 : W.ownsRow B 84 3 (.slice a1 n c1) n (linesC L n)
  r2 : W.ownsRow B 9 1 (.slice a2 m c2) m (textsC I m)
  ne : ∀ k, a1.map Addr.block = some k → a2.map Addr.block = some k → False
theorem ownBlock_map (a : Option Addr) (n c : Nat) : (Value.slice a n c).ownBlock = a.map Addr.block := by cases a <;> rfl
theorem Rows2.kept {W W' : World} {B : Nat} {a1 : Option Addr} {n c1 : Nat} {L : Nat → Ln} {a2 : Option Addr} {m c2 : Nat} {I : Nat → Tx} {row : Option Nat} (h : Rows2 W B a1 n c1 L a2 m c2 I) (hg : W.grownBy W' row) (h1 : ∀ k, a1.map Addr.block = some k → some k ≠ row) (h2 : ∀ k, a2.map Addr.block = some k → some k ≠ row) : Rows2 W' B a1 n c1 L a2 m c2 I := by
  refine ⟨h.r1.kept hg ?_, h.r2.kept hg ?_, h.ne⟩
  · rw [ownBlock_map]
    cases e : a1.map Addr.block with
    | none => exact Or.inl rfl
    | some k => exact Or.inr (h1 k e)
  · rw [ownBlock_map]
    cases e : a2.map Addr.block with
    | none => exact Or.inl rfl
    | some k => exact Or.inr (h2 k e)
theorem Rows2.below {W W' : World} {B : Nat} {a1 : Option Addr} {n c1 : Nat} {L : Nat → Ln} {a2 : Option Addr} {m c2 : Nat} {I : Nat → Tx} (h : Rows2 W B a1 n c1 L a2 m c2 I) (hb : Below W.heap.size W W') : Rows2 W' B a1 n c1 L a2 m c2 I := ⟨own_below h.r1 hb, own_below h.r2 hb, h.ne⟩
theorem Rows2.lt1 {W : World} {B : Nat} {a1 : Option Addr} {n c1 : Nat} {L : Nat → Ln} {a2 : Option Addr} {m c2 : Nat} {I : Nat → Tx} (h : Rows2 W B a1 n c1 L a2 m c2 I) (k : Nat) (e : a1.map Addr.block = some k) : B ≤ k ∧ k < W.heap.size := h.r1.lt k (by rw [ownBlock_map]; exact e)
theorem Rows2.lt2 {W : World} {B : Nat} {a1 : Option Addr} {n c1 : Nat} {L : Nat → Ln} {a2 : Option Addr} {m c2 : Nat} {I : Nat → Tx} (h : Rows2 W B a1 n c1 L a2 m c2 I) (k : Nat) (e : a2.map Addr.block = some k) : B ≤ k ∧ k < W.heap.size := h.r2.lt k (by rw [ownBlock_map]; exact e)
/-- What a ledger has moved. -/
def Moved (fr fi : Nat) (t : Int) (K : Nat) : Prop := ∃ r i : Nat, fr = fl r ∧ fi = fl i ∧ (i : Int) - (r : Int) = t ∧ r ≤ K ∧ i ≤ K
set_option maxRecDepth 100000 in
set_option maxHeartbeats 16000000 in
theorem impl_ledger_own (g o g' o' n m cap cap' : Nat) (L : Nat → Ln) (I : Nat → Tx) (hf : ∀ i, i < n → (L i).fits) (hfi : ∀ i, i < m → (I i).fits) (hA : linesB n L = true) (hJ : idsB m I = true) (w : World) (h : LinesAt w (some ⟨g, o, none⟩) n L) (h' : TextsAt w (some ⟨g', o', none⟩) m I) :
    Calls Tryz.prog 29 #[.agg #[.slice (some ⟨g, o, none⟩) n cap, .slice (some ⟨g', o', none⟩) m cap']] w fun e w' => ∃ (a1 : Option Addr) (c1 : Nat) (a2 : Option Addr) (c2 M fr fi : Nat) (er : Value), e = .returned (.tuple #[.agg #[.slice a1 n c1, .slice a2 m c2, .map (some M), .complex .f64 fr fi], er]) ∧ (er = .nilIface ∧ sumL L n = 0 ∨ er = .iface 94 (.agg #[.int .i64 1]) ∧ sumL L n ≠ 0) ∧ w'.ownsMap Tryz.prog 57 (plainElem Tryz.prog 3) M n (placesD L n) ∧ LinesAt w' a1 n L ∧ Below w.heap.size w w' ∧ Rows2 w' w.heap.size a1 n c1 L a2 m c2 I ∧ (w.heap.size ≤ M ∧ (∀ k, a1.map Addr.block = some k → k ≠ M) ∧ ∀ k, a2.map Addr.block = some k → k ≠ M) ∧ Moved fr fi (sumL L n) (n * 1000000000000) := by
  obtain ⟨i0, hi, hz0, hz1, hz2⟩ := info_parts infoLn
  obtain ⟨i1, hi', hz0', hz1', hz2'⟩ := info_parts infoTx
  obtain ⟨hn60, hok⟩ := (linesB_iff n L).1 hA
  obtain ⟨hm100, _⟩ := (idsB_iff m I).1 hJ
  have HOK : Hid (∀ j, j < n → okLine L j = true) := hok
  have T0 := two_now w #[.slice (some ⟨g, o, none⟩) n cap, .slice (some ⟨g', o', none⟩) m cap'] #[.slice none 0 0, .slice none 0 0, .map none, .complex .f64 0 0] 31 64
  have HLR := impl_lines (some ⟨g, o, none⟩) n cap L (by omega) hf ((w.alloc (.cells #[.slice (some ⟨g, o, none⟩) n cap, .slice (some ⟨g', o', none⟩) m cap'] 31)).alloc (.cells #[.slice none 0 0, .slice none 0 0, .map none, .complex .f64 0 0] 64)) (h.below T0.bel)
  have HIR := fun W (hW : Below w.heap.size w W) => impl_ids (some ⟨g', o', none⟩) m cap' I (by omega) hfi W (h'.below hW)
  have HL : Hid (LinesAt w (some ⟨g, o, none⟩) n L) := h
  have HI : Hid (TextsAt w (some ⟨g', o', none⟩) m I) := h'
  have HF : Hid (∀ i, i < n → (L i).fits) := hf
  rw [hA] at HLR
  rw [hJ] at HIR
  have HT0 : Hid (Both w ((w.alloc (.cells #[.slice (some ⟨g, o, none⟩) n cap, .slice (some ⟨g', o', none⟩) m cap'] 31)).alloc (.cells #[.slice none 0 0, .slice none 0 0, .map none, .complex .f64 0 0] 64)) #[.slice (some ⟨g, o, none⟩) n cap, .slice (some ⟨g', o', none⟩) m cap'] #[.slice none 0 0, .slice none 0 0, .map none, .complex .f64 0 0]) := T0
  have HLR : Hid (Calls Tryz.prog 53 #[.slice (some ⟨g, o, none⟩) n cap] ((w.alloc (.cells #[.slice (some ⟨g, o, none⟩) n cap, .slice (some ⟨g', o', none⟩) m cap'] 31)).alloc (.cells #[.slice none 0 0, .slice none 0 0, .map none, .complex .f64 0 0] 64)) fun e w' => e = .returned (.bool true) ∧ Below ((w.alloc (.cells #[.slice (some ⟨g, o, none⟩) n cap, .slice (some ⟨g', o', none⟩) m cap'] 31)).alloc (.cells #[.slice none 0 0, .slice none 0 0, .map none, .complex .f64 0 0] 64)).heap.size ((w.alloc (.cells #[.slice (some ⟨g, o, none⟩) n cap, .slice (some ⟨g', o', none⟩) m cap'] 31)).alloc (.cells #[.slice none 0 0, .slice none 0 0, .map none, .complex .f64 0 0] 64)) w') := HLR
  have HIR : Hid (∀ W, Below w.heap.size w W → Calls Tryz.prog 54 #[.slice (some ⟨g', o', none⟩) m cap'] W fun e w' => e = .returned (.bool true) ∧ Below W.heap.size W w') := HIR
  clear h h' hf hfi T0 hA hJ hok
  go_enter Tryz.func29, Tryz.ntmps29
  go_wp2_with fail
  refine HLR.out.mono ?_
  rintro e w1 ⟨rfl, hb1⟩
  have T1 := HT0.out.next hb1
  have b1 := T1.box 1
  simp at b1
  have rf : ∀ j, w1.frozen? ⟨w.heap.size + 1, j, none⟩ = false := fun j => (hb1.frozen (p := ⟨w.heap.size + 1, j, none⟩) (by simp)).trans (fnew' (by simp) j)
  have HRF : Hid (∀ j, w1.frozen? ⟨w.heap.size + 1, j, none⟩ = false) := rf
  have HT1 : Hid (Both w w1 #[.slice (some ⟨g, o, none⟩) n cap, .slice (some ⟨g', o', none⟩) m cap'] #[.slice none 0 0, .slice none 0 0, .map none, .complex .f64 0 0]) := T1
  clear hb1 T1 HLR rf HT0
  go_wp2_with fail
  refine (HIR.out _ HT1.out.bel).mono ?_
  rintro e w2 ⟨rfl, hb2⟩
  have T2 := HT1.out.next hb2
  have HT2 : Hid (Both w w2 #[.slice (some ⟨g, o, none⟩) n cap, .slice (some ⟨g', o', none⟩) m cap'] #[.slice none 0 0, .slice none 0 0, .map none, .complex .f64 0 0]) := T2
  have HRF2 : Hid (∀ j, w2.frozen? ⟨w.heap.size + 1, j, none⟩ = false) := fun j => (hb2.frozen (p := ⟨w.heap.size + 1, j, none⟩) (by have := HT1.out.size; show w.heap.size + 1 < _; omega)).trans (HRF.out j)
  have c0 := T2.box 0
  have c1 := T2.box 1
  simp at c0 c1
  have hs2 : w.heap.size + 2 ≤ w2.heap.size := T2.size
  have hl0 : w.heap.size < w2.heap.size := by omega
  have nl0 : w2.heap.size ≠ w.heap.size := by omega
  have HB2 : Hid (Below w.heap.size w w2) := T2.bel
  have HLa : Hid (LinesAt (w2.alloc (.cells #[.slice none 0 0, .slice none 0 0, .map none, .complex .f64 0 0] 64)) (some ⟨g, o, none⟩) n L) := (HL.out.below T2.bel).below ((Below.refl _ _).alloc (Nat.le_refl _) _)
  clear hb2 T2 b1 HIR HT1 HRF
  go_wp2_with (at_builtin; refine wpList_append_own _ rfl (.tmp 22) (.tmp 24) 29 rfl (w2.heap.size + 1) 84 i0 (.agg #[.string ⟨#[]⟩, .string ⟨#[]⟩, .int .i64 0]) 3 40 Tryz.underlying29 hi hz0 hz1 hz2 rfl (by decide) (.slice none 0 0) 0 [] rfl (World.ownsRow_nil _ _ _ _) ⟨g, o, none⟩ n cap (linesC L n) rfl (linesC_len L n) ?c1 ?c2 ?c3 ?c4 ?c5 ?_)
  case c1 => exact news_lines HLa.out
  case c2 => exact ones_lines L n
  case c3 => unfold maxLen; omega
  case c4 => omega
  case c5 => simp
  intro v1 w3 hown1 hg1 _
  obtain ⟨a1, cp1, rfl, hLA, hbk⟩ := own_linesAt hown1
  have hb3 : Below (w2.heap.size + 1) (w2.alloc (.cells #[.slice none 0 0, .slice none 0 0, .map none, .complex .f64 0 0] 64)) w3 := (Below.refl _ _).grown hg1 (by simp) (fun k hk => by cases hk)
  have cl : ∀ j, w3.cell? ⟨w2.heap.size, j, none⟩ = (#[.slice none 0 0, .slice none 0 0, .map none, .complex .f64 0 0] : Array Value)[j]? := fun j => (hb3.cell (p := ⟨w2.heap.size, j, none⟩) (by simp)).trans (cnew _ _ _ j)
  have fl3 : ∀ j, w3.frozen? ⟨w2.heap.size, j, none⟩ = false := fun j => (hb3.frozen (p := ⟨w2.heap.size, j, none⟩) (by simp)).trans (fnew' rfl j)
  have hs3 : w2.heap.size + 1 ≤ w3.heap.size := by have := hb3.size; simpa using this
  have HB3 : Hid (Below w.heap.size w w3) := (HB2.out.alloc HB2.out.size _).trans (hb3.mono (by omega))
  have HB23 : Hid (Below w2.heap.size w2 w3) := ((Below.refl _ _).alloc (Nat.le_refl _) _).trans (hb3.mono (by omega))
  have HLA : Hid (LinesAt w3 a1 n L) := hLA
  have HBK : Hid (∀ k, a1.map Addr.block = some k → w2.heap.size < k ∧ k < w3.heap.size) := fun k e => by have := hbk k e; omega
  have l0 := cl 0
  have l1 := cl 1
  have l2 := cl 2
  have l3 := cl 3
  simp at l0 l1 l2 l3
  have d1 : w3.cell? ⟨w.heap.size, 1, none⟩ = some (.slice (some ⟨g', o', none⟩) m cap') := (HB23.out.cell (p := ⟨w.heap.size, 1, none⟩) hl0).trans c1
  have HR1 : Hid (w3.ownsRow w.heap.size 84 3 (.slice a1 n cp1) n (linesC L n)) := own_low (B := w2.heap.size + 1) (by omega) (by simpa using hown1)
  obtain ⟨l, hl⟩ : ∃ l, l = w2.heap.size := ⟨_, rfl⟩
  have HLW : Hid (l = w2.heap.size) := hl
  rw [← hl] at l0 l1 l2 l3 fl3 HBK hl0 nl0 hs3 hs2 ⊢
  clear hown1 hg1 hbk hLA hb3 cl c0 c1 hl HLa
  have hlw3 : l < w3.heap.size := by omega
  have hll : l ≠ w.heap.size := nl0
  have HIa : Hid (TextsAt (w3.setCell ⟨l, 0, none⟩ (.slice a1 n cp1)) (some ⟨g', o', none⟩) m I) := by
    rcases HI.out with h0 | ⟨g1, o1, e, hg1, _⟩
    · exact Or.inl h0
    · simp at e
      obtain ⟨rfl, rfl⟩ := e
      exact (HI.out.below HB3.out).set (by omega)
  go_wp2_with (at_builtin; refine wpList_append_own _ rfl (.tmp 30) (.tmp 32) 23 rfl w3.heap.size 9 i1 (.string ⟨#[]⟩) 1 16 Tryz.underlying23 hi' hz0' hz1' hz2' rfl (by decide) (.slice none 0 0) 0 [] rfl (World.ownsRow_nil _ _ _ _) ⟨g', o', none⟩ m cap' (textsC I m) rfl (textsC_len I m) ?e1 ?e2 ?e3 ?e4 ?e5 ?_)
  case e1 => exact news_texts HIa.out
  case e2 => exact ones_texts I m
  case e3 => unfold maxLen; omega
  case e4 => omega
  case e5 => simp
  intro v2 w4 hown2 hg2 _
  obtain ⟨a2, cp2, hv2, _, hbk2⟩ := own_texts hown2
  subst hv2
  have hb4 : Below w3.heap.size (w3.setCell ⟨l, 0, none⟩ (.slice a1 n cp1)) w4 := (Below.refl _ _).grown hg2 (by simp) (fun k hk => by cases hk)
  have hb4' : Below (w3.setCell ⟨l, 0, none⟩ (.slice a1 n cp1)).heap.size (w3.setCell ⟨l, 0, none⟩ (.slice a1 n cp1)) w4 := hb4.mono (by simp)
  have D3 : Led w3 l (.slice none 0 0) (.slice none 0 0) (.map none) (.complex .f64 0 0) := ⟨l0, l1, l2, l3, fl3, hlw3⟩
  have D4 := (D3.set0 (.slice a1 n cp1)).below hb4'
  have hnl : ∀ k, a1.map Addr.block = some k → k ≠ l := fun k e => by have := (HBK.out k e).1; omega
  have A4 : LinesAt w4 a1 n L := (HLA.out.setl (j := 0) (u := .slice a1 n cp1) hnl).below hb4'
  have Z2 : Zr w w2 := by
    have q0 := HT2.out.res 0
    have q1 := HT2.out.res 1
    have q2 := HT2.out.res 2
    have q3 := HT2.out.res 3
    simp at q0 q1 q2 q3
    exact ⟨q0, q1, q2, q3, HRF2.out, by have := HT2.out.size; omega⟩
  have Z4 : Zr w w4 := ((Led.below Z2 HB23.out).setl (by omega)).below hb4'
  have HB4 : Hid (Below w.heap.size w w4) := (HB3.out.setCell (by show w.heap.size ≤ l; omega) _).trans (hb4'.mono (by simpa using HB3.out.size))
  have D5 := D4.set1 (.slice a2 m cp2)
  have A5 : LinesAt (w4.setCell ⟨l, 1, none⟩ (.slice a2 m cp2)) a1 n L := A4.setl hnl
  have HD5 : Hid (Led (w4.setCell ⟨l, 1, none⟩ (.slice a2 m cp2)) l (.slice a1 n cp1) (.slice a2 m cp2) (.map none) (.complex .f64 0 0)) := D5
  have HA5 : Hid (LinesAt (w4.setCell ⟨l, 1, none⟩ (.slice a2 m cp2)) a1 n L) := A5
  have HZ5 : Hid (Zr w (w4.setCell ⟨l, 1, none⟩ (.slice a2 m cp2))) := Led.setl Z4 (by omega)
  have HB5 : Hid (Below w.heap.size w (w4.setCell ⟨l, 1, none⟩ (.slice a2 m cp2))) := HB4.out.setCell (by show w.heap.size ≤ l; omega) _
  have HNL : Hid (∀ k, a1.map Addr.block = some k → k ≠ l) := hnl
  have HNR : Hid (∀ k, a1.map Addr.block = some k → k ≠ w.heap.size + 1) := fun k e => by have := (HBK.out k e).1; omega
  obtain ⟨m0, m1, m2, m3, mf, mlt⟩ := D4
  have hr2 : w4.ownsRow w.heap.size 9 1 (.slice a2 m cp2) m (textsC I m) := own_low (B := w3.heap.size) (by omega) (by simpa using hown2)
  have hr1 : w4.ownsRow w.heap.size 84 3 (.slice a1 n cp1) n (linesC L n) := own_below (HR1.out.kept (setGrown (g := l) (j := 0) (u := .slice a1 n cp1) (World.grownBy.refl _ _)) (by
    rw [ownBlock_map]
    cases e : a1.map Addr.block with
    | none => exact Or.inl rfl
    | some k => exact Or.inr (by have := hnl k e; simpa using this))) hb4'
  have hn2 : ∀ k, a2.map Addr.block = some k → w3.heap.size ≤ k := fun k e => (hbk2 k e).1
  have HW5 : Hid (Rows2 (w4.setCell ⟨l, 1, none⟩ (.slice a2 m cp2)) w.heap.size a1 n cp1 L a2 m cp2 I) := Rows2.kept (row := some l) ⟨hr1, hr2, fun k e e' => by have := (HBK.out k e).2; have := hn2 k e'; omega⟩ (setGrown (World.grownBy.refl _ _)) (fun k e => by have := hnl k e; simpa using this) (fun k e => by have := hn2 k e; simp; omega)
  have HN2 : Hid (∀ k, a2.map Addr.block = some k → k ≠ l ∧ k ≠ w.heap.size + 1) := fun k e => by have := hn2 k e; omega
  clear hr1 hr2 hn2 hbk2 HR1
  clear hown2 hg2 hb4 hb4' D3 A4 Z2 Z4 HB4 D5 A5 hnl l0 l1 l2 l3 fl3 HLA HBK HB23 HRF2 HT2 HIa d1 HB2 HB3
  go_wp2_with fail
  refine (impl_index l a1 n cp1 L hn60 HF.out (.map none) _ HA5.out HNL.out HD5.out.lt HD5.out.c0 HD5.out.c2 (HD5.out.fz 2)).mono ?_
  rintro e w6 ⟨rfl, M, hM, hc2, hmp, hg6, hsame, hfr⟩
  have D6 : Led w6 l (.slice a1 n cp1) (.slice a2 m cp2) (.map (some M)) (.complex .f64 0 0) := ⟨(hsame 0 (by omega)).trans HD5.out.c0, (hsame 1 (by omega)).trans HD5.out.c1, hc2, (hsame 3 (by omega)).trans HD5.out.c3, fun j => (hfr j).trans (HD5.out.fz j), Nat.lt_of_lt_of_le HD5.out.lt hg6.size⟩
  have HD6 : Hid (Led w6 l (.slice a1 n cp1) (.slice a2 m cp2) (.map (some M)) (.complex .f64 (fl 0) (fl 0))) := D6
  have HMp6 : Hid (w6.ownsMap Tryz.prog 57 (plainElem Tryz.prog 3) M n (placesD L n)) := hmp
  have hMl : M ≠ l := by have := HD5.out.lt; omega
  have hMr : M ≠ w.heap.size + 1 := by have := HD5.out.lt; omega
  clear hmp
  have HA6 : Hid (LinesAt w6 a1 n L) := HA5.out.grown hg6 (fun k e => by simpa using HNL.out k e)
  have HW6 : Hid (Rows2 w6 w.heap.size a1 n cp1 L a2 m cp2 I) := HW5.out.kept hg6 (fun k e => by simpa using HNL.out k e) (fun k e => by simpa using (HN2.out k e).1)
  have HMM : Hid (w.heap.size ≤ M ∧ (∀ k, a1.map Addr.block = some k → k ≠ M) ∧ ∀ k, a2.map Addr.block = some k → k ≠ M) := ⟨by have := HB5.out.size; omega, fun k e => by have := HW5.out.lt1 k e; omega, fun k e => by have := HW5.out.lt2 k e; omega⟩
  have HZ6 : Hid (Zr w w6) := Led.grown HZ5.out hg6 (by simp; omega)
  have HB6 : Hid (Below w.heap.size w w6) := HB5.out.grown hg6 HB5.out.size (fun k hk => by simp at hk; omega)
  obtain ⟨e0, e1, e2, e3, ef, elt⟩ := D6
  clear hc2 hg6 hsame hfr hM HD5 HA5 HZ5 HB5 HW5 m0 m1 m2 m3 mf mlt
  go_wp2_with fail
  go_loopw [41] (fun x wr => ∃ k r i : Nat, x = .int .i64 (k : Int) ∧ k ≤ n ∧ Hid ((i : Int) - (r : Int) = sumL L k ∧ r ≤ k * 1000000000000 ∧ i ≤ k * 1000000000000) ∧ Hid (Led wr l (.slice a1 n cp1) (.slice a2 m cp2) (.map (some M)) (.complex .f64 (fl r) (fl i))) ∧ Hid (wr.ownsMap Tryz.prog 57 (plainElem Tryz.prog 3) M n (placesD L n)) ∧ Hid (LinesAt wr a1 n L) ∧ Hid (Zr w wr) ∧ Hid (Below w.heap.size w wr) ∧ Hid (Rows2 wr w.heap.size a1 n cp1 L a2 m cp2 I)) (fun x _ => n - (intOf x).toNat)
  case atStart => exact ⟨0, 0, 0, rfl, by omega, ⟨rfl, by omega, by omega⟩, HD6, HMp6, HA6, HZ6, HB6, HW6⟩
  case round =>
    obtain ⟨k, r, i, rfl, hk, HS, HD, HMp, HA, HZ, HB, HW⟩ := hrel
    by_cases hkn : k < n
    · have p0 : decide (k < n) = true := by simpa using hkn
      have p1 : decide ((k : Int) < (n : Int)) = true := by simpa using hkn
      rcases HA.out with h0 | ⟨g1, o1, rfl, hg1, hc⟩
      · omega
      obtain ⟨c0, c1, c2⟩ := hc k hkn
      obtain ⟨x0, x1⟩ := okLine_m (HOK.out k hkn)
      have HS0 := count_step HS.out.1 HS.out.2.1 HS.out.2.2 x0 x1
      have HSS : Hid ((putI i (L k).m : Int) - (takeI r (L k).m : Int) = sumL L (k + 1) ∧ takeI r (L k).m ≤ (k + 1) * 1000000000000 ∧ putI i (L k).m ≤ (k + 1) * 1000000000000) := HS0
      clear HS0
      have hrb : r ≤ 1000000000000000 := by have := HS.out.2.1; have : k * 1000000000000 ≤ 60 * 1000000000000 := Nat.mul_le_mul_right _ (by omega); omega
      have hib : i ≤ 1000000000000000 := by have := HS.out.2.2; have : k * 1000000000000 ≤ 60 * 1000000000000 := Nat.mul_le_mul_right _ (by omega); omega
      have HCT := fun W (hc : W.cell? ⟨l, 3, none⟩ = some (.complex .f64 (fl r) (fl i))) (hf : W.frozen? ⟨l, 3, none⟩ = false) => impl_count l r i (L k).m x0 x1 hrb hib W hc hf
      obtain ⟨tr, htr⟩ : ∃ t, takeI r (L k).m = t := ⟨_, rfl⟩
      obtain ⟨ti, hti⟩ : ∃ t, putI i (L k).m = t := ⟨_, rfl⟩
      rw [htr, hti] at HSS
      rw [htr, hti] at HCT
      have HCT : Hid (∀ W, W.cell? ⟨l, 3, none⟩ = some (.complex .f64 (fl r) (fl i)) → W.frozen? ⟨l, 3, none⟩ = false → Calls Tryz.prog 56 #[.pointer (some ⟨l, 0, none⟩), .int .i64 (L k).m] W fun e w' => e = .returned (.tuple #[]) ∧ w' = W.setCell ⟨l, 3, none⟩ (.complex .f64 (fl tr) (fl ti))) := HCT
      clear htr hti hc HS x0 x1
      generalize (L k).a = y0 at *
      generalize (L k).s = y1 at *
      generalize (L k).m = y2 at *
      have hBa : Below wr.heap.size wr (wr.alloc (.cells #[.string y0, .string y1, .int .i64 y2] 84)) := (Below.refl _ _).alloc (Nat.le_refl _) _
      have HDa : Hid (Led (wr.alloc (.cells #[.string y0, .string y1, .int .i64 y2] 84)) l (.slice (some ⟨g1, o1, none⟩) n cp1) (.slice a2 m cp2) (.map (some M)) (.complex .f64 (fl r) (fl i))) := HD.out.below hBa
      have HMa : Hid ((wr.alloc (.cells #[.string y0, .string y1, .int .i64 y2] 84)).ownsMap Tryz.prog 57 (plainElem Tryz.prog 3) M n (placesD L n)) := HMp.out.alloc _
      have HAa : Hid (LinesAt (wr.alloc (.cells #[.string y0, .string y1, .int .i64 y2] 84)) (some ⟨g1, o1, none⟩) n L) := HA.out.below hBa
      have HWa : Hid (Rows2 (wr.alloc (.cells #[.string y0, .string y1, .int .i64 y2] 84)) w.heap.size (some ⟨g1, o1, none⟩) n cp1 L a2 m cp2 I) := HW.out.below hBa
      have HZa : Hid (Zr w (wr.alloc (.cells #[.string y0, .string y1, .int .i64 y2] 84))) := Led.below HZ.out hBa
      have HBa : Hid (Below w.heap.size w (wr.alloc (.cells #[.string y0, .string y1, .int .i64 y2] 84))) := HB.out.trans (hBa.mono HB.out.size)
      clear hBa HD HA HZ HB HMp HW
      go_wp2_with fail
      refine (HCT.out _ HDa.out.c3 (HDa.out.fz 3)).mono ?_
      rintro e w7 ⟨rfl, hw7⟩
      have HD7 : Hid (Led w7 l (.slice (some ⟨g1, o1, none⟩) n cp1) (.slice a2 m cp2) (.map (some M)) (.complex .f64 (fl tr) (fl ti))) := by rw [hw7]; exact HDa.out.set3 _
      have HM7 : Hid (w7.ownsMap Tryz.prog 57 (plainElem Tryz.prog 3) M n (placesD L n)) := by rw [hw7]; exact HMa.out.kept (setGrown (World.grownBy.refl _ _)) (by simpa using hMl)
      have HA7 : Hid (LinesAt w7 (some ⟨g1, o1, none⟩) n L) := by rw [hw7]; exact HAa.out.setl HNL.out
      have HW7 : Hid (Rows2 w7 w.heap.size (some ⟨g1, o1, none⟩) n cp1 L a2 m cp2 I) := by rw [hw7]; exact HWa.out.kept (row := some l) (setGrown (World.grownBy.refl _ _)) (fun k e => by have := HNL.out k e; simpa using this) (fun k e => by have := (HN2.out k e).1; simpa using this)
      have HZ7 : Hid (Zr w w7) := by rw [hw7]; exact Led.setl HZa.out (by omega)
      have HB7 : Hid (Below w.heap.size w w7) := by rw [hw7]; exact HBa.out.setCell (by show w.heap.size ≤ l; omega) _
      clear hw7 HDa HAa HZa HBa HWa HCT c0 c1 c2
      go_wp2_with fail
      go_roundw
      case rel => exact ⟨k + 1, tr, ti, by go_num, by omega, HSS, HD7, HM7, HA7, HZ7, HB7, HW7⟩
      case measure => simp [intOf]; omega
    · have p0 : decide (k < n) = false := by simpa using hkn
      have p1 : decide ((k : Int) < (n : Int)) = false := by simpa using hkn
      obtain rfl : k = n := by omega
      have hrb : r ≤ 1000000000000000 := by have := HS.out.2.1; have : k * 1000000000000 ≤ 60 * 1000000000000 := Nat.mul_le_mul_right _ (by omega); omega
      have hib : i ≤ 1000000000000000 := by have := HS.out.2.2; have : k * 1000000000000 ≤ 60 * 1000000000000 := Nat.mul_le_mul_right _ (by omega); omega
      have HST := fun W (hc : W.cell? ⟨l, 3, none⟩ = some (.complex .f64 (fl r) (fl i))) => impl_settled l r i hrb hib W hc
      obtain ⟨er, her⟩ : ∃ er, (if r = i then Value.nilIface else .iface 94 (.agg #[.int .i64 1])) = er := ⟨_, rfl⟩
      have HER : Hid (er = .nilIface ∧ sumL L k = 0 ∨ er = .iface 94 (.agg #[.int .i64 1]) ∧ sumL L k ≠ 0) := by
        have := HS.out.1
        by_cases hri : r = i
        · rw [if_pos hri] at her; exact Or.inl ⟨her.symm, by omega⟩
        · rw [if_neg hri] at her; exact Or.inr ⟨her.symm, by omega⟩
      rw [her] at HST
      have HST : Hid (∀ W, W.cell? ⟨l, 3, none⟩ = some (.complex .f64 (fl r) (fl i)) → Calls Tryz.prog 57 #[.pointer (some ⟨l, 0, none⟩)] W fun e w' => e = .returned er ∧ ∃ d, w' = W.drewN d) := HST
      have HMV : Hid (Moved (fl r) (fl i) (sumL L k) (k * 1000000000000)) := ⟨r, i, rfl, rfl, HS.out.1, HS.out.2.1, HS.out.2.2⟩
      clear her HS
      obtain ⟨c0, c1, c2, c3, cf, clt⟩ := HD.out
      obtain ⟨z0, z1, z2, z3, zf, zlt⟩ := HZ.out
      have hst := fun (W : World) (x y : Nat) (hc : W.cell? ⟨w.heap.size + 1, 3, none⟩ = some (.complex .f64 0 0)) (hf : W.frozen? ⟨w.heap.size + 1, 3, none⟩ = false) => store_cx ⟨w.heap.size + 1, 3, none⟩ x y _ W hc hf
      have hln : w.heap.size + 1 ≠ l := by omega
      have hln' : l ≠ w.heap.size + 1 := by omega
      generalize fl r = fr at *
      generalize fl i = fi at *
      go_upto_region 12 with fail
      go_region_held3 (fun W => W.cell? ⟨l, 0, none⟩ = some (.slice a1 k cp1) ∧ W.cell? ⟨l, 1, none⟩ = some (.slice a2 m cp2) ∧ W.cell? ⟨l, 2, none⟩ = some (.map (some M)) ∧ W.cell? ⟨l, 3, none⟩ = some (.complex .f64 fr fi)) (go_keep) (first | (go_at_call 57; refine (HST.out _ (by simpa using c3)).mono ?_; rintro e w7 ⟨rfl, d, rfl⟩))
      all_goals
        go_wp2_with fail
        refine bodyPost_ret (v := .tuple #[.agg #[.slice a1 k cp1, .slice a2 m cp2, .map (some M), .complex .f64 fr fi], er]) ?_ rfl ⟨a1, cp1, a2, cp2, M, fr, fi, er, rfl, HER.out, ?_, ?_, ?_, ?_, HMM.out, HMV.out⟩
        · simp [results, Tryz.results29, go_sem, z0, z1, z2, z3]
        · exact (HMp.out.kept (four_set wr (1 + d) (w.heap.size + 1) _ _ _ _) (by simpa using hMr))
        · exact HA.out.grown (four_set wr (1 + d) (w.heap.size + 1) _ _ _ _) (fun j e => by have := HNR.out j e; simpa using this)
        · have s1 : w.heap.size ≤ w.heap.size + 1 := by omega
          have hd : Below w.heap.size w (wr.drewN (1 + d)) := ⟨HB.out.os, HB.out.tape, HB.out.output, HB.out.size, HB.out.block⟩
          exact (((hd.setCell s1 _).setCell s1 _).setCell s1 _).setCell s1 _
        · exact HW.out.kept (four_set wr (1 + d) (w.heap.size + 1) _ _ _ _) (fun j e => by have := HNR.out j e; simpa using this) (fun j e => by have := (HN2.out j e).2; simpa using this)
end Go.Proofs.YtepkmbfedblhdaaGreatDoor
namespace Go.Proofs.YtepkmbfedblhdaaGreatDoor
open Go.RowKit
open Go.Proofs.YtepkmbfedblhdaaGreatDoor.Draw

theorem bl_irrefl : ∀ x : List UInt8, Op.bytesLess x x = false
  | [] => rfl
  | a :: x => by
    rw [Op.bytesLess]
    have := bl_irrefl x
    simp [this, UInt8.lt_irrefl]
theorem bl_cons (a b : UInt8) (x y : List UInt8) : Op.bytesLess (a :: x) (b :: y) = true ↔ a < b ∨ a = b ∧ Op.bytesLess x y = true := by
  rw [Op.bytesLess]
  by_cases h : a < b
  · simp [h]
  · by_cases e : a = b
    · subst e; simp [h]
    · simp [h, e]
theorem bl_trans : ∀ x y z : List UInt8, Op.bytesLess x y = true → Op.bytesLess y z = true → Op.bytesLess x z = true
  | [], [], _, h, _ => by simp [Op.bytesLess] at h
  | [], _ :: _, [], _, h => by simp [Op.bytesLess] at h
  | [], _ :: _, _ :: _, _, _ => by simp [Op.bytesLess]
  | _ :: _, [], _, h, _ => by simp [Op.bytesLess] at h
  | _ :: _, _ :: _, [], _, h => by simp [Op.bytesLess] at h
  | a :: x, b :: y, c :: z, h, h' => by
    rw [bl_cons] at h h' ⊢
    rcases h with h | ⟨rfl, h⟩
    · rcases h' with h' | ⟨rfl, h'⟩
      · exact Or.inl (UInt8.lt_trans h h')
      · exact Or.inl h
    · rcases h' with h' | ⟨rfl, h'⟩
      · exact Or.inl h'
      · exact Or.inr ⟨rfl, bl_trans x y z h h'⟩
theorem lessP_iff (a s a' s' : ByteArray) : lessP a s a' s' = true ↔ ltS a a' = true ∨ a.toList = a'.toList ∧ ltS s s' = true := by
  unfold lessP; simp
theorem lessP_irrefl (a s : ByteArray) : lessP a s a s = false := by
  cases h : lessP a s a s
  · rfl
  · rcases (lessP_iff _ _ _ _).1 h with h | ⟨_, h⟩
    · unfold ltS at h; rw [bl_irrefl] at h; cases h
    · unfold ltS at h; rw [bl_irrefl] at h; cases h
theorem lessP_trans {a s b t c u : ByteArray} (h : lessP a s b t = true) (h' : lessP b t c u = true) : lessP a s c u = true := by
  rw [lessP_iff] at h h' ⊢
  unfold ltS at h h' ⊢
  rcases h with h | ⟨e, h⟩
  · rcases h' with h' | ⟨e', h'⟩
    · exact Or.inl (bl_trans _ _ _ h h')
    · rw [e'] at h; exact Or.inl h
  · rcases h' with h' | ⟨e', h'⟩
    · rw [← e] at h'; exact Or.inl h'
    · exact Or.inr ⟨e.trans e', bl_trans _ _ _ h h'⟩
theorem okLine_less {L : Nat → Ln} {j : Nat} (h : okLine L (j + 1) = true) : lessP (L j).a (L j).s (L (j + 1)).a (L (j + 1)).s = true := by
  simp only [okLine, Bool.and_eq_true] at h
  have := h.2
  simpa using this
theorem lines_less {L : Nat → Ln} {n : Nat} (h : ∀ j, j < n → okLine L j = true) (i : Nat) : ∀ k, i + k + 1 < n → lessP (L i).a (L i).s (L (i + k + 1)).a (L (i + k + 1)).s = true
  | 0, hk => okLine_less (h _ hk)
  | k + 1, hk => lessP_trans (lines_less h i k (by omega)) (okLine_less (h _ hk))
theorem lines_apart {L : Nat → Ln} {n i k : Nat} (h : ∀ j, j < n → okLine L j = true) (hi : i < k) (hk : k < n) : ¬ ((L i).a = (L k).a ∧ (L i).s = (L k).s) := by
  rintro ⟨e, e'⟩
  have := lines_less h i (k - i - 1) (by omega)
  rw [show i + (k - i - 1) + 1 = k by omega, e, e', lessP_irrefl] at this
  cases this
/-- The first line at a spot. -/
def findB (L : Nat → Ln) (a s : ByteArray) : Nat → Option Nat
  | 0 => none
  | k + 1 => (findB L a s k).orElse fun _ => if (L k).a = a ∧ (L k).s = s then some k else none
theorem findB_some {L : Nat → Ln} {a s : ByteArray} : ∀ {k i : Nat}, findB L a s k = some i → i < k ∧ (L i).a = a ∧ (L i).s = s
  | 0, _, h => by simp [findB] at h
  | k + 1, i, h => by
    unfold findB at h
    cases hf : findB L a s k with
    | some j =>
      rw [hf] at h; simp at h; subst h
      have := findB_some hf
      exact ⟨by omega, this.2⟩
    | none =>
      rw [hf] at h
      simp at h
      exact ⟨by omega, by rw [← h.2]; exact h.1⟩
theorem findB_stay {L : Nat → Ln} {a s : ByteArray} {i k : Nat} (h : findB L a s k = some i) : ∀ d, findB L a s (k + d) = some i
  | 0 => h
  | d + 1 => by rw [← Nat.add_assoc, findB, findB_stay h d]; rfl
theorem findB_hit {L : Nat → Ln} {a s : ByteArray} {k n : Nat} (h0 : findB L a s k = none) (h : (L k).a = a ∧ (L k).s = s) (hn : k < n) : findB L a s n = some k := by
  have h1 : findB L a s (k + 1) = some k := by unfold findB; rw [h0]; simp [h]
  have := findB_stay h1 (n - (k + 1))
  rwa [show k + 1 + (n - (k + 1)) = n by omega] at this
theorem findB_miss {L : Nat → Ln} {a s : ByteArray} {k : Nat} (h0 : findB L a s k = none) (h : ¬ ((L k).a = a ∧ (L k).s = s)) : findB L a s (k + 1) = none := by
  unfold findB; rw [h0]; simp only [Option.orElse, h, if_false]
theorem spotK_inj {a s a' s' : ByteArray} (ha : a.size ≤ maxLen) (hs : s.size ≤ maxLen) (ha' : a'.size ≤ maxLen) (hs' : s'.size ≤ maxLen) (h : spotK a s = spotK a' s') : a = a' ∧ s = s' := by
  unfold spotK at h
  have hl : ∀ x : ByteArray, x.size ≤ maxLen → x.data.toList.length ≤ maxLen := fun x hx => by rw [← Lib.size_eq]; exact hx
  have wf : ∀ x y : ByteArray, x.size ≤ maxLen → y.size ≤ maxLen → ∀ c ∈ [Lit.string x.data.toList, Lit.string y.data.toList], c.keyWf := fun x y hx hy c hc => by
    simp at hc
    rcases hc with rfl | rfl
    · exact hl _ hx
    · exact hl _ hy
  have := keyBytes_inj (l := [.string a.data.toList, .string s.data.toList]) (l' := [.string a'.data.toList, .string s'.data.toList]) ⟨trivial, trivial, trivial⟩ (wf a s ha hs) (wf a' s' ha' hs') (by simpa using h)
  simp at this
  obtain ⟨e1, e2⟩ := this
  exact ⟨by cases a; cases a'; simp at e1; rw [e1], by cases s; cases s'; simp at e2; rw [e2]⟩
theorem places_isMap (L : Nat → Ln) : ∀ n, Maps.IsMap (placesD L n)
  | 0 => Maps.isMap_empty
  | n + 1 => (places_isMap L n).put _ _
theorem places_find {L : Nat → Ln} {n : Nat} {a s : ByteArray} (hok : ∀ j, j < n → okLine L j = true) (hf : ∀ j, j < n → (L j).fits) (ha : a.size ≤ maxLen) (hs : s.size ≤ maxLen) : ∀ k, k ≤ n →
    Maps.has (placesD L k) (spotK a s) = (findB L a s k).isSome ∧ ∀ i, findB L a s k = some i → (placesD L k).atKey (spotK a s) (.lit (.int .i64 0)) = .lit (.int .i64 (i : Int))
  | 0, _ => ⟨rfl, fun i h => by cases h⟩
  | k + 1, hk => by
    have ih := places_find hok hf ha hs k (by omega)
    have hkey : WideAt.IsKeyLit (spotK a s) := trivial
    by_cases h : (L k).a = a ∧ (L k).s = s
    · have h0 : findB L a s k = none := by
        cases hc : findB L a s k with
        | none => rfl
        | some i =>
          obtain ⟨h1, h2, h3⟩ := findB_some hc
          exact absurd ⟨h2.trans h.1.symm, h3.trans h.2.symm⟩ (lines_apart hok h1 (by omega))
      have h1 : findB L a s (k + 1) = some k := findB_hit h0 h (by omega)
      have e : spotK (L k).a (L k).s = spotK a s := by rw [h.1, h.2]
      rw [placesD, e, h1]
      refine ⟨Maps.has_put_same (places_isMap L k) hkey _, fun i hi => ?_⟩
      rw [Maps.atKey_put_same (places_isMap L k) hkey]
      simp at hi; rw [hi]
    · have hne : spotK a s ≠ spotK (L k).a (L k).s := fun e => by
        have := spotK_inj ha hs (hf k (by omega)).1 (hf k (by omega)).2 e
        exact h ⟨this.1.symm, this.2.symm⟩
      have e : findB L a s (k + 1) = findB L a s k := by
        cases hc : findB L a s k with
        | none => exact findB_miss hc h
        | some i => exact findB_stay hc 1
      rw [placesD, e]
      exact ⟨(Maps.has_put_other hne _).trans ih.1, fun i hi => (Maps.atKey_put_other hne _ _).trans (ih.2 i hi)⟩
end Go.Proofs.YtepkmbfedblhdaaGreatDoor
namespace Go.Proofs.YtepkmbfedblhdaaGreatDoor
open Go.RowKit
open Go.Proofs.YtepkmbfedblhdaaGreatDoor.Draw

/-- Where a line at a spot belongs. -/
def IsPlace (L : Nat → Ln) (x y : ByteArray) (n k : Nat) : Prop := k ≤ n ∧ (∀ j, j < k → lessP (L j).a (L j).s x y = true) ∧ ∀ j, k ≤ j → j < n → lessP (L j).a (L j).s x y = false
theorem first_not (p : Nat → Bool) : ∀ n : Nat, ∃ k, k ≤ n ∧ (∀ j, j < k → p j = true) ∧ (k < n → p k = false)
  | 0 => ⟨0, Nat.le_refl _, fun j hj => by omega, fun h => by omega⟩
  | n + 1 => by
    obtain ⟨k, h1, h2, h3⟩ := first_not p n
    by_cases hk : k < n
    · exact ⟨k, by omega, h2, fun _ => h3 hk⟩
    · obtain rfl : k = n := by omega
      cases hp : p k with
      | false => exact ⟨k, by omega, h2, fun _ => hp⟩
      | true => exact ⟨k + 1, by omega, fun j hj => by
          by_cases e : j = k
          · rw [e]; exact hp
          · exact h2 j (by omega), fun h => by omega⟩
theorem not_less_up {L : Nat → Ln} {n : Nat} (hok : ∀ j, j < n → okLine L j = true) {x y : ByteArray} {k : Nat} (h : lessP (L k).a (L k).s x y = false) {j : Nat} (hkj : k ≤ j) (hj : j < n) : lessP (L j).a (L j).s x y = false := by
  by_cases e : j = k
  · rw [e]; exact h
  · cases hl : lessP (L j).a (L j).s x y with
    | false => rfl
    | true =>
      have := lines_less hok k (j - k - 1) (by omega)
      rw [show k + (j - k - 1) + 1 = j by omega] at this
      rw [lessP_trans this hl] at h
      cases h
theorem less_down {L : Nat → Ln} {n : Nat} (hok : ∀ j, j < n → okLine L j = true) {x y : ByteArray} {k : Nat} (hk : k < n) (h : lessP (L k).a (L k).s x y = true) {j : Nat} (hkj : j ≤ k) : lessP (L j).a (L j).s x y = true := by
  cases hl : lessP (L j).a (L j).s x y with
  | true => rfl
  | false => rw [not_less_up hok hl hkj hk] at h; cases h
theorem place_is {L : Nat → Ln} {n : Nat} (hok : ∀ j, j < n → okLine L j = true) (x y : ByteArray) : ∃ k, IsPlace L x y n k := by
  obtain ⟨k, h1, h2, h3⟩ := first_not (fun j => lessP (L j).a (L j).s x y) n
  exact ⟨k, h1, h2, fun j hkj hj => not_less_up hok (h3 (by omega)) hkj hj⟩
/-- One line more. -/
def insL (L : Nat → Ln) (k : Nat) (x y : ByteArray) (i : Nat) : Ln := if i < k then L i else if i = k then ⟨x, y, 0⟩ else L (i - 1)
theorem ins_lines (L : Nat → Ln) (k : Nat) (x y : ByteArray) (n : Nat) (hk : k ≤ n) : linesC (insL L k x y) (n + 1) = (linesC L n).take (k * 3) ++ [.string x, .string y, .int .i64 0] ++ (linesC L n).drop (k * 3) := by
  apply List.ext_getElem?
  intro j
  by_cases hj : j < (n + 1) * 3
  · rw [linesC_at _ _ _ hj]
    by_cases h1 : j < k * 3
    · rw [List.append_assoc, List.getElem?_append_left (by rw [List.length_take, linesC_len]; omega), List.getElem?_take, if_pos h1, linesC_at _ _ _ (by omega)]
      have : insL L k x y (j / 3) = L (j / 3) := by unfold insL; rw [if_pos (by omega)]
      simp only [lineF, this]
    · by_cases h2 : j < k * 3 + 3
      · rw [List.append_assoc, List.getElem?_append_right (by rw [List.length_take, linesC_len]; omega), List.length_take, linesC_len, show j - min (k * 3) (n * 3) = j - k * 3 by omega]
        have hI : insL L k x y (j / 3) = ⟨x, y, 0⟩ := by unfold insL; rw [if_neg (by omega), if_pos (by omega)]
        simp only [lineF, hI]
        rcases (by omega : j = k * 3 ∨ j = k * 3 + 1 ∨ j = k * 3 + 2) with rfl | rfl | rfl
        · rw [if_pos (by omega), show k * 3 - k * 3 = 0 by omega]; rfl
        · rw [if_neg (by omega), if_pos (by omega), show k * 3 + 1 - k * 3 = 1 by omega]; rfl
        · rw [if_neg (by omega), if_neg (by omega), show k * 3 + 2 - k * 3 = 2 by omega]; rfl
      · rw [List.getElem?_append_right (by simp [linesC_len]; omega), List.getElem?_drop]
        simp only [List.length_append, List.length_take, linesC_len, List.length_cons, List.length_nil]
        rw [show k * 3 + (j - (min (k * 3) (n * 3) + (0 + 1 + 1 + 1))) = j - 3 by omega, linesC_at _ _ _ (by omega)]
        have hI : insL L k x y (j / 3) = L ((j - 3) / 3) := by unfold insL; rw [if_neg (by omega), if_neg (by omega), show j / 3 - 1 = (j - 3) / 3 by omega]
        simp only [lineF, hI, show (j - 3) % 3 = j % 3 by omega]
  · rw [List.getElem?_eq_none (by rw [linesC_len]; omega), List.getElem?_eq_none (by simp [linesC_len]; omega)]
theorem insL_fits {L : Nat → Ln} {k n : Nat} {x y : ByteArray} (hx : x.size ≤ maxLen) (hy : y.size ≤ maxLen) (hf : ∀ i, i < n → (L i).fits) (i : Nat) (hi : i < n + 1) (hk : k ≤ n) : (insL L k x y i).fits := by
  unfold insL
  split
  · exact hf i (by omega)
  · split
    · exact ⟨hx, hy⟩
    · exact hf _ (by omega)
end Go.Proofs.YtepkmbfedblhdaaGreatDoor
namespace Go.Proofs.YtepkmbfedblhdaaGreatDoor
open Go.RowKit
open Go.Proofs.YtepkmbfedblhdaaGreatDoor.Draw

structure Lg where
  fa : ByteArray
  fs : ByteArray
  ta : ByteArray
  ts : ByteArray
  m : Int
def Lg.fits (x : Lg) : Prop := x.fa.size ≤ maxLen ∧ x.fs.size ≤ maxLen ∧ x.ta.size ≤ maxLen ∧ x.ts.size ≤ maxLen
def Lg.small (x : Lg) : Prop := x.fa.size ≤ 1048576 ∧ x.fs.size ≤ 1048576 ∧ x.ta.size ≤ 1048576 ∧ x.ts.size ≤ 1048576
theorem Lg.small.fits {x : Lg} (h : x.small) : x.fits := by
  obtain ⟨h0, h1, h2, h3⟩ := h; unfold Lg.fits maxLen; omega
/-- n legs in memory. -/
def LegsAt (w : World) (a : Option Addr) (n : Nat) (L : Nat → Lg) : Prop := n = 0 ∨ ∃ g o, a = some ⟨g, o, none⟩ ∧ g < w.heap.size ∧ ∀ i, i < n → w.cell? ⟨g, o + i * 5, none⟩ = some (.string (L i).fa) ∧ w.cell? ⟨g, o + i * 5 + 1, none⟩ = some (.string (L i).fs) ∧ w.cell? ⟨g, o + i * 5 + 2, none⟩ = some (.string (L i).ta) ∧ w.cell? ⟨g, o + i * 5 + 3, none⟩ = some (.string (L i).ts) ∧ w.cell? ⟨g, o + i * 5 + 4, none⟩ = some (.int .i64 (L i).m)
theorem LegsAt.below {w w' : World} {a : Option Addr} {n : Nat} {L : Nat → Lg} (h : LegsAt w a n L) (hb : Below w.heap.size w w') : LegsAt w' a n L := by
  rcases h with h | ⟨g, o, rfl, hg, hc⟩
  · exact Or.inl h
  · refine Or.inr ⟨g, o, rfl, Nat.lt_of_lt_of_le hg hb.size, fun i hi => ?_⟩
    obtain ⟨c0, c1, c2, c3, c4⟩ := hc i hi
    exact ⟨(hb.cell (p := ⟨g, _, none⟩) hg).trans c0, (hb.cell (p := ⟨g, _, none⟩) hg).trans c1, (hb.cell (p := ⟨g, _, none⟩) hg).trans c2, (hb.cell (p := ⟨g, _, none⟩) hg).trans c3, (hb.cell (p := ⟨g, _, none⟩) hg).trans c4⟩
/-- The cells of legs by number. -/
def legF (L : Nat → Lg) (j : Nat) : Value := if j % 5 = 0 then .string (L (j / 5)).fa else if j % 5 = 1 then .string (L (j / 5)).fs else if j % 5 = 2 then .string (L (j / 5)).ta else if j % 5 = 3 then .string (L (j / 5)).ts else .int .i64 (L (j / 5)).m
theorem legF_at (L : Nat → Lg) (i : Nat) : legF L (i * 5) = .string (L i).fa ∧ legF L (i * 5 + 1) = .string (L i).fs ∧ legF L (i * 5 + 2) = .string (L i).ta ∧ legF L (i * 5 + 3) = .string (L i).ts ∧ legF L (i * 5 + 4) = .int .i64 (L i).m := by
  refine ⟨?_, ?_, ?_, ?_, ?_⟩
  · rw [legF, if_pos (by omega), show i * 5 / 5 = i by omega]
  · rw [legF, if_neg (by omega), if_pos (by omega), show (i * 5 + 1) / 5 = i by omega]
  · rw [legF, if_neg (by omega), if_neg (by omega), if_pos (by omega), show (i * 5 + 2) / 5 = i by omega]
  · rw [legF, if_neg (by omega), if_neg (by omega), if_neg (by omega), if_pos (by omega), show (i * 5 + 3) / 5 = i by omega]
  · rw [legF, if_neg (by omega), if_neg (by omega), if_neg (by omega), if_neg (by omega), show (i * 5 + 4) / 5 = i by omega]
theorem Own.legs {w : World} {g n : Nat} {L : Nat → Lg} (h : Own w g (n * 5) (legF L)) : LegsAt w (some ⟨g, 0, none⟩) n L := by
  refine Or.inr ⟨g, 0, rfl, h.1, fun i hi => ?_⟩
  obtain ⟨e0, e1, e2, e3, e4⟩ := legF_at L i
  rw [Nat.zero_add, ← e0, ← e1, ← e2, ← e3, ← e4]
  exact ⟨h.2.1 _ (by omega), h.2.1 _ (by omega), h.2.1 _ (by omega), h.2.1 _ (by omega), h.2.1 _ (by omega)⟩
/-- One leg more is written. -/
theorem five_step {w : World} {g n I : Nat} {F G : Nat → Value} (h : Own w g (n * 5) (fun j => if j < I * 5 then G j else F j)) (hI : I < n) {v0 v1 v2 v3 v4 : Value} (e0 : G (I * 5) = v0) (e1 : G (I * 5 + 1) = v1) (e2 : G (I * 5 + 2) = v2) (e3 : G (I * 5 + 3) = v3) (e4 : G (I * 5 + 4) = v4) :
    Own (((((w.setCell ⟨g, I * 5, none⟩ v0).setCell ⟨g, I * 5 + 1, none⟩ v1).setCell ⟨g, I * 5 + 2, none⟩ v2).setCell ⟨g, I * 5 + 3, none⟩ v3).setCell ⟨g, I * 5 + 4, none⟩ v4) g (n * 5) (fun j => if j < (I + 1) * 5 then G j else F j) := by
  refine (((((h.set (i := I * 5) (by omega) v0).set (i := I * 5 + 1) (by omega) v1).set (i := I * 5 + 2) (by omega) v2).set (i := I * 5 + 3) (by omega) v3).set (i := I * 5 + 4) (by omega) v4).congr fun j _ => ?_
  show (if j = I * 5 + 4 then v4 else if j = I * 5 + 3 then v3 else if j = I * 5 + 2 then v2 else if j = I * 5 + 1 then v1 else if j = I * 5 then v0 else if j < I * 5 then G j else F j) = if j < (I + 1) * 5 then G j else F j
  by_cases c4 : j = I * 5 + 4
  · rw [if_pos c4, if_pos (by omega), c4, e4]
  rw [if_neg c4]
  by_cases c3 : j = I * 5 + 3
  · rw [if_pos c3, if_pos (by omega), c3, e3]
  rw [if_neg c3]
  by_cases c2 : j = I * 5 + 2
  · rw [if_pos c2, if_pos (by omega), c2, e2]
  rw [if_neg c2]
  by_cases c1 : j = I * 5 + 1
  · rw [if_pos c1, if_pos (by omega), c1, e1]
  rw [if_neg c1]
  by_cases c0 : j = I * 5
  · rw [if_pos c0, if_pos (by omega), c0, e0]
  rw [if_neg c0]
  by_cases c : j < I * 5
  · rw [if_pos c, if_pos (by omega)]
  · rw [if_neg c, if_neg (by omega)]

set_option maxRecDepth 100000 in
set_option maxHeartbeats 4000000 in
theorem sz_leg (x0 x1 x2 x3 : ByteArray) (x4 : Int) (h0 : x0.size ≤ maxLen) (h1 : x1.size ≤ maxLen) (h2 : x2.size ≤ maxLen) (h3 : x3.size ≤ maxLen) (left : Nat) (hl : left ≤ 1048576) (w : World) :
    Calls Tryz.prog 19 #[.agg #[.string x0, .string x1, .string x2, .string x3, .int .i64 x4], .int .i64 (left : Int)] w fun e w' => (e = .returned (.int .i64 (-1)) ∨ ∃ r : Nat, e = .returned (.int .i64 (r : Int)) ∧ r ≤ left ∧ x0.size ≤ left ∧ x1.size ≤ left ∧ x2.size ≤ left ∧ x3.size ≤ left) ∧ Below w.heap.size w w' := by
  have H0 : Hid (x0.size ≤ maxLen ∧ x1.size ≤ maxLen ∧ x2.size ≤ maxLen ∧ x3.size ≤ maxLen) := ⟨h0, h1, h2, h3⟩
  clear h0 h1 h2 h3
  go_enter Tryz.func19, Tryz.ntmps19
  go_wp2_with fail
  refine (sz_spot x0 x1 H0.out.1 H0.out.2.1 left hl _).mono ?_
  rintro e w1 ⟨he, hb1⟩
  have HB1 : Hid (Below w.heap.size w w1) := ((Below.refl _ _).alloc (Nat.le_refl _) _).trans (hb1.mono (by simp))
  have cc : ∀ j, w1.cell? ⟨w.heap.size, j, none⟩ = (#[.string x0, .string x1, .string x2, .string x3, .int .i64 x4] : Array Value)[j]? := fun j => (hb1.cell (p := ⟨w.heap.size, j, none⟩) (by simp)).trans (cnew _ _ _ j)
  have c2 := cc 2
  have c3 := cc 3
  simp at c2 c3
  clear hb1 cc
  rcases he with ⟨rfl, _⟩ | ⟨rfl, hs1⟩
  · have q : decide ((-1 : Int) < 0) = true := rfl
    go_wp2_with fail
    go_ret
    exact ⟨Or.inl rfl, HB1.out⟩
  · obtain ⟨r, hr⟩ : ∃ r, r = left - (x0.size + x1.size) := ⟨_, rfl⟩
    rw [← hr]
    have HR : Hid (r + x0.size + x1.size = left) := (by omega : r + x0.size + x1.size = left)
    have hrl : r ≤ left := by omega
    clear hs1 hr
    have q : decide ((r : Int) < 0) = false := by simp
    go_wp2_with fail
    refine (sz_spot x2 x3 H0.out.2.2.1 H0.out.2.2.2 r (by omega) _).mono ?_
    rintro e w2 ⟨he, hb2⟩
    have HB2 : Hid (Below w.heap.size w w2) := HB1.out.trans (hb2.mono HB1.out.size)
    clear hb2 c2 c3
    rcases he with ⟨rfl, _⟩ | ⟨rfl, hs2⟩
    · have q' : decide ((-1 : Int) < 0) = true := rfl
      go_wp2_with fail
      go_ret
      exact ⟨Or.inl rfl, HB2.out⟩
    · obtain ⟨t, ht⟩ : ∃ t, t = r - (x2.size + x3.size) := ⟨_, rfl⟩
      rw [← ht]
      have HT : Hid (t + x2.size + x3.size = r) := (by omega : t + x2.size + x3.size = r)
      clear hs2 ht
      have q' : decide ((t : Int) < 0) = false := by simp
      go_wp2_with fail
      go_ret
      have := HR.out
      have := HT.out
      exact ⟨Or.inr ⟨t, rfl, by omega, by omega, by omega, by omega, by omega⟩, HB2.out⟩
set_option maxRecDepth 100000 in
set_option maxHeartbeats 4000000 in
theorem sz_legs (a : Option Addr) (n cap : Nat) (L : Nat → Lg) (hn : n ≤ maxLen) (hfit : ∀ i, i < n → (L i).fits) (left : Nat) (hl : left ≤ 1048576) (w : World) (h : LegsAt w a n L) :
    Calls Tryz.prog 5 #[.slice a n cap, .int .i64 (left : Int)] w fun e w' => (e = .returned (.int .i64 (-1)) ∨ ∃ r : Nat, e = .returned (.int .i64 (r : Int)) ∧ r ≤ left ∧ n ≤ left ∧ ∀ i, i < n → (L i).small) ∧ Below w.heap.size w w' := by
  have HL : Hid (LegsAt w a n L) := h
  have HF : Hid (∀ i, i < n → (L i).fits) := hfit
  clear h hfit
  have hn' : n ≤ 9223372036854775807 := by unfold maxLen at hn; omega
  clear hn
  by_cases hnl : n ≤ left
  · have q0 : decide ((left : Int) - (n : Int) < 0) = false := by simp; omega
    go_enter Tryz.func5, Tryz.ntmps5
    go_wp2_with fail
    go_loopw [1, 5] (fun x i wr => ∃ (k r : Nat), x = .int .i64 (r : Int) ∧ i = .int .i64 (k : Int) ∧ k ≤ n ∧ r ≤ left ∧ Hid (∀ j, j < k → (L j).small) ∧ Hid (Below w.heap.size w wr)) (fun _ i _ => n - (intOf i).toNat)
    case atStart => exact ⟨0, left - n, by go_num, rfl, by omega, by omega, fun j hj => by omega, Below.refl _ _⟩
    case round =>
      obtain ⟨k, r, rfl, rfl, hk, hr, HS, HB⟩ := hrel
      by_cases hkn : k < n
      · have p0 : decide (k < n) = true := by simpa using hkn
        have p1 : decide ((k : Int) < (n : Int)) = true := by simpa using hkn
        rcases HL.out.below HB.out with h0 | ⟨g, o, rfl, hg, hc⟩
        · omega
        obtain ⟨c0, c1, c2, c3, c4⟩ := hc k hkn
        obtain ⟨f0, f1, f2, f3⟩ := HF.out k hkn
        have HS' : Hid ((L k).small → ∀ j, j < k + 1 → (L j).small) := fun hsm j hj => by
          by_cases e : j = k
          · rw [e]; exact hsm
          · exact HS.out j (by omega)
        have HSm : Hid ((L k).fa.size ≤ left → (L k).fs.size ≤ left → (L k).ta.size ≤ left → (L k).ts.size ≤ left → (L k).small) := fun a b c d => ⟨by omega, by omega, by omega, by omega⟩
        have H1 := fun W => sz_leg (L k).fa (L k).fs (L k).ta (L k).ts (L k).m f0 f1 f2 f3 r (by omega) W
        have H1 : Hid (∀ W, _) := H1
        clear hc HS f0 f1 f2 f3
        generalize (L k).fa = x0 at *
        generalize (L k).fs = x1 at *
        generalize (L k).ta = x2 at *
        generalize (L k).ts = x3 at *
        generalize (L k).m = x4 at *
        go_wp2_with fail
        refine (H1.out _).mono ?_
        rintro e w1 ⟨he, hb1⟩
        have HB1 : Hid (Below w.heap.size w w1) := HB.out.trans (hb1.mono HB.out.size)
        clear hb1 c0 c1 c2 c3 c4 H1
        rcases he with rfl | ⟨t, rfl, ht, s0, s1, s2, s3⟩
        · have q' : decide ((-1 : Int) < 0) = true := rfl
          go_wp2_with fail
          go_ret
          exact ⟨Or.inl rfl, HB1.out⟩
        · have q' : decide ((t : Int) < 0) = false := by simp
          have HS2 : Hid (∀ j, j < k + 1 → (L j).small) := HS'.out (HSm.out (by omega) (by omega) (by omega) (by omega))
          clear HS' HSm s0 s1 s2 s3
          go_wp2_with fail
          go_roundw
          case rel => exact ⟨k + 1, t, rfl, by go_num, by omega, by omega, HS2, HB1⟩
          case measure => simp [intOf]; omega
      · have p0 : decide (k < n) = false := by simpa using hkn
        have p1 : decide ((k : Int) < (n : Int)) = false := by simpa using hkn
        obtain rfl : k = n := by omega
        go_wp2_with fail
        go_ret
        exact ⟨Or.inr ⟨r, rfl, hr, hnl, HS.out⟩, HB.out⟩
  · have q0 : decide ((left : Int) - (n : Int) < 0) = true := by simp; omega
    go_enter Tryz.func5, Tryz.ntmps5
    go_wp2_with fail
    go_ret
    exact ⟨Or.inl rfl, Below.refl _ _⟩
end Go.Proofs.YtepkmbfedblhdaaGreatDoor
namespace Go.Proofs.YtepkmbfedblhdaaGreatDoor
open Go.RowKit
open Go.Proofs.YtepkmbfedblhdaaGreatDoor.Draw

set_option maxRecDepth 100000 in
set_option maxHeartbeats 4000000 in
theorem to_leg (x0 x1 x2 x3 : ByteArray) (x4 : Int) (w : World) :
    Calls Tryz.prog 26 #[.agg #[.string x0, .string x1, .string x2, .string x3, .int .i64 x4]] w fun e w' => e = .returned (.agg #[.string x0, .string x1, .string x2, .string x3, .int .i64 x4]) ∧ Below w.heap.size w w' := by
  go_enter Tryz.func26, Tryz.ntmps26
  go_wp2_with fail
  refine (to_spot x0 x1 _).mono ?_
  rintro e w1 ⟨rfl, hb1⟩
  have T1 := (three_new w #[.string x0, .string x1, .string x2, .string x3, .int .i64 x4] #[.string ⟨#[]⟩, .string ⟨#[]⟩, .string ⟨#[]⟩, .string ⟨#[]⟩, .int .i64 0] #[.string ⟨#[]⟩, .string ⟨#[]⟩, .string ⟨#[]⟩, .string ⟨#[]⟩, .int .i64 0] 51 59 59).next hb1
  have b2 := T1.box 2
  have b3 := T1.box 3
  have o0 := T1.out 0
  have o1 := T1.out 1
  have of := T1.ofr
  simp at b2 b3 o0 o1
  have HT : Hid (Three w ((w1.setCell ⟨w.heap.size + 1 + 1, 0, none⟩ (.string x0)).setCell ⟨w.heap.size + 1 + 1, 1, none⟩ (.string x1)) #[.string x0, .string x1, .string x2, .string x3, .int .i64 x4] #[.string ⟨#[]⟩, .string ⟨#[]⟩, .string ⟨#[]⟩, .string ⟨#[]⟩, .int .i64 0] #[.string x0, .string x1, .string ⟨#[]⟩, .string ⟨#[]⟩, .int .i64 0]) := (T1.set 0 (by simp) (.string x0)).set 1 (by simp) (.string x1)
  clear hb1 T1
  go_wp2_with fail
  refine (to_spot x2 x3 _).mono ?_
  rintro e w2 ⟨rfl, hb2⟩
  have T2 := HT.out.next hb2
  have c4 := T2.box 4
  have p0 := T2.out 0
  have p1 := T2.out 1
  have p2 := T2.out 2
  have p3 := T2.out 3
  have p4 := T2.out 4
  have pf := T2.ofr
  have r0 := T2.res 0
  have r1 := T2.res 1
  have r2 := T2.res 2
  have r3 := T2.res 3
  have r4 := T2.res 4
  have rf := T2.rfr
  simp at c4 p0 p1 p2 p3 p4 r0 r1 r2 r3 r4
  have HB : Hid (Below w.heap.size w w2) := T2.bel
  clear hb2 T2 HT b2 b3 o0 o1 of
  go_wp2_with fail
  refine bodyPost_ret (v := .agg #[.string x0, .string x1, .string x2, .string x3, .int .i64 x4]) ?_ rfl ⟨rfl, ?_⟩
  · simp [results, Tryz.results26, go_sem, r0, r1, r2, r3, r4]
  · have a1 : w.heap.size ≤ w.heap.size + 1 := by omega
    have a2 : w.heap.size ≤ w.heap.size + 1 + 1 := by omega
    exact (((((((((HB.out.setCell a2 _).setCell a2 _).setCell a2 _).setCell a1 _).setCell a1 _).setCell a1 _).setCell a1 _).setCell a1 _))
theorem infoLeg : (Tryz.prog.info? 59).map (fun i => (i.zero, i.size, i.bytes)) = some (some (.agg #[.string ⟨#[]⟩, .string ⟨#[]⟩, .string ⟨#[]⟩, .string ⟨#[]⟩, .int .i64 0]), 5, 72) := by kernel_rfl
set_option maxRecDepth 100000 in
set_option maxHeartbeats 4000000 in
theorem to_legs (a : Option Addr) (n cap : Nat) (L : Nat → Lg) (hn : n ≤ 1048576) (w : World) (h : LegsAt w a n L) :
    Calls Tryz.prog 8 #[.slice a n cap] w fun e w' => ∃ g, e = .returned (.slice (some ⟨g, 0, none⟩) n n) ∧ w.heap.size ≤ g ∧ Own w' g (n * 5) (legF L) ∧ Below w.heap.size w w' := by
  obtain ⟨i0, hi, hz0, hz1, hz2⟩ := info_parts infoLeg
  have HL : Hid (LegsAt w a n L) := h
  clear h
  go_enter Tryz.func8, Tryz.ntmps8
  go_wp2_with (refine wpList_make_full _ rfl (.tmp 6) (.tmp 6) 36 rfl w.heap.size 59 i0 (.agg #[.string ⟨#[]⟩, .string ⟨#[]⟩, .string ⟨#[]⟩, .string ⟨#[]⟩, .int .i64 0]) 5 Tryz.underlying36 hi hz0 hz1 .i64 .i64 _ _ n rfl rfl rfl rfl (by rw [hz2]; omega) (by unfold maxLen; omega) (Nat.le_refl _) ?_)
  intro w1 hown hg1
  have HB1 : Hid (Below w.heap.size w w1) := (Below.refl _ _).grown hg1 (Nat.le_refl _) (fun k hk => by cases hk)
  obtain ⟨F0, hO⟩ := own_some hown
  have HO : Hid (Own w1 w.heap.size (n * 5) F0) := hO
  clear hO
  clear hg1 hown
  go_wp2_with fail
  go_loopw [4] (fun i wr => ∃ k : Nat, i = .int .i64 (k : Int) ∧ k ≤ n ∧ Hid (Own wr w.heap.size (n * 5) (fun j => if j < k * 5 then legF L j else F0 j)) ∧ Hid (Below w.heap.size w wr)) (fun i _ => n - (intOf i).toNat)
  case atStart => exact ⟨0, rfl, by omega, HO.out.congr (fun j _ => by rw [if_neg (by omega)]), HB1⟩
  case round =>
    obtain ⟨k, rfl, hk, HOr, HB⟩ := hrel
    by_cases hkn : k < n
    · have p0 : decide (k < n) = true := by simpa using hkn
      have p1 : decide ((k : Int) < (n : Int)) = true := by simpa using hkn
      rcases HL.out with h0 | ⟨g, o, rfl, hg, hc⟩
      · omega
      obtain ⟨c0, c1, c2, c3, c4⟩ := hc k hkn
      have d0 := (HB.out.cell (p := ⟨g, _, none⟩) hg).trans c0
      have d1 := (HB.out.cell (p := ⟨g, _, none⟩) hg).trans c1
      have d2 := (HB.out.cell (p := ⟨g, _, none⟩) hg).trans c2
      have d3 := (HB.out.cell (p := ⟨g, _, none⟩) hg).trans c3
      have d4 := (HB.out.cell (p := ⟨g, _, none⟩) hg).trans c4
      have HE : Hid (legF L (k * 5) = .string (L k).fa ∧ legF L (k * 5 + 1) = .string (L k).fs ∧ legF L (k * 5 + 2) = .string (L k).ta ∧ legF L (k * 5 + 3) = .string (L k).ts ∧ legF L (k * 5 + 4) = .int .i64 (L k).m) := legF_at L k
      clear hc c0 c1 c2 c3 c4
      generalize (L k).fa = x0 at *
      generalize (L k).fs = x1 at *
      generalize (L k).ta = x2 at *
      generalize (L k).ts = x3 at *
      generalize (L k).m = x4 at *
      go_wp2_with fail
      refine (to_leg x0 x1 x2 x3 x4 _).mono ?_
      rintro e w2 ⟨rfl, hb2⟩
      have HO2 : Hid (Own w2 w.heap.size (n * 5) (fun j => if j < k * 5 then legF L j else F0 j)) := HOr.out.below hb2
      have HB2 : Hid (Below w.heap.size w w2) := HB.out.trans (hb2.mono HB.out.size)
      clear hb2 d0 d1 d2 d3 d4
      have a0 := HO2.out.2.1 (k * 5) (by omega)
      have a1 := HO2.out.2.1 (k * 5 + 1) (by omega)
      have a2 := HO2.out.2.1 (k * 5 + 2) (by omega)
      have a3 := HO2.out.2.1 (k * 5 + 3) (by omega)
      have a4 := HO2.out.2.1 (k * 5 + 4) (by omega)
      have hf := HO2.out.2.2
      simp only [show ¬ k * 5 < k * 5 by omega, show ¬ k * 5 + 1 < k * 5 by omega, show ¬ k * 5 + 2 < k * 5 by omega, show ¬ k * 5 + 3 < k * 5 by omega, show ¬ k * 5 + 4 < k * 5 by omega, if_false] at a0 a1 a2 a3 a4
      generalize F0 (k * 5) = y0 at a0
      generalize F0 (k * 5 + 1) = y1 at a1
      generalize F0 (k * 5 + 2) = y2 at a2
      generalize F0 (k * 5 + 3) = y3 at a3
      generalize F0 (k * 5 + 4) = y4 at a4
      have HN := fun (_ : Unit) => five_step HO2.out hkn HE.out.1 HE.out.2.1 HE.out.2.2.1 HE.out.2.2.2.1 HE.out.2.2.2.2
      have HN : Hid (Unit → _) := HN
      go_wp2_with fail
      go_roundw
      case rel =>
        have s := Nat.le_refl w.heap.size
        exact ⟨k + 1, by go_num, by omega, HN.out (), ((((HB2.out.setCell s _).setCell s _).setCell s _).setCell s _).setCell s _⟩
      case measure => simp [intOf]; omega
    · have p0 : decide (k < n) = false := by simpa using hkn
      have p1 : decide ((k : Int) < (n : Int)) = false := by simpa using hkn
      obtain rfl : k = n := by omega
      go_wp2_with fail
      go_ret
      exact ⟨w.heap.size, rfl, Nat.le_refl _, HOr.out.congr (fun j hj => by rw [if_pos hj]), HB.out⟩
set_option maxRecDepth 100000 in
set_option maxHeartbeats 4000000 in
theorem eq_leg (x0 x1 x2 x3 : ByteArray) (x4 : Int) (w : World) :
    Calls Tryz.prog 35 #[.agg #[.string x0, .string x1, .string x2, .string x3, .int .i64 x4], .agg #[.string x0, .string x1, .string x2, .string x3, .int .i64 x4]] w fun e w' => e = .returned (.bool true) ∧ Below w.heap.size w w' := by
  have hxx : ∀ x : Int, (x != x) = false := fun x => by simp
  go_enter Tryz.func35, Tryz.ntmps35
  go_wp2_with fail
  refine (eq_spot x0 x1 _).mono ?_
  rintro e w1 ⟨rfl, hb1⟩
  have T1 := (two_now w #[.string x0, .string x1, .string x2, .string x3, .int .i64 x4] #[.string x0, .string x1, .string x2, .string x3, .int .i64 x4] 59 59).next hb1
  have b2 := T1.box 2
  have b3 := T1.box 3
  have b4 := T1.box 4
  have r2 := T1.res 2
  have r3 := T1.res 3
  have r4 := T1.res 4
  simp at b2 b3 b4 r2 r3 r4
  have HT : Hid (Both w w1 #[.string x0, .string x1, .string x2, .string x3, .int .i64 x4] #[.string x0, .string x1, .string x2, .string x3, .int .i64 x4]) := T1
  clear hb1 T1
  go_wp2_with fail
  refine (eq_spot x2 x3 _).mono ?_
  rintro e w2 ⟨rfl, hb2⟩
  have T2 := HT.out.next hb2
  have c4 := T2.box 4
  have d4 := T2.res 4
  simp at c4 d4
  have HB : Hid (Below w.heap.size w w2) := T2.bel
  clear hb2 T2 b2 b3 b4 r2 r3 r4
  go_wp2_with fail
  go_ret
  exact ⟨rfl, HB.out⟩
set_option maxRecDepth 100000 in
set_option maxHeartbeats 4000000 in
theorem eq_legs (a a' : Option Addr) (n cap cap' : Nat) (L : Nat → Lg) (hn : n ≤ 1048576) (w : World) (h : LegsAt w a n L) (h' : LegsAt w a' n L) :
    Calls Tryz.prog 12 #[.slice a n cap, .slice a' n cap'] w fun e w' => e = .returned (.bool true) ∧ Below w.heap.size w w' := by
  have HR : Hid (LegsAt w a n L) := h
  have HR' : Hid (LegsAt w a' n L) := h'
  clear h h'
  have hnn : ((n : Int) != (n : Int)) = false := by simp
  go_enter Tryz.func12, Tryz.ntmps12
  go_wp2_with fail
  go_loopw [5] (fun i wr => ∃ k : Nat, i = .int .i64 k ∧ k ≤ n ∧ Below w.heap.size w wr) (fun i _ => n - (intOf i).toNat)
  case atStart => exact ⟨0, rfl, by omega, Below.refl _ _⟩
  case round =>
    obtain ⟨k, rfl, hk, hb⟩ := hrel
    have HB : Hid (Below w.heap.size w wr) := hb
    have hsr := hb.size
    clear hb
    by_cases hkn : k < n
    · have q0 : decide (k < n) = true := by simpa using hkn
      have q1 : decide ((k : Int) < (n : Int)) = true := by simpa using hkn
      rcases HR.out with h0 | ⟨g, o, rfl, hg, hc⟩
      · omega
      rcases HR'.out with h0 | ⟨g', o', rfl, hg', hc'⟩
      · omega
      obtain ⟨c0, c1, c2, c3, c4⟩ := hc k hkn
      obtain ⟨d0, d1, d2, d3, d4⟩ := hc' k hkn
      have a0 := (HB.out.cell (p := ⟨g, _, none⟩) hg).trans c0
      have a1 := (HB.out.cell (p := ⟨g, _, none⟩) hg).trans c1
      have a2 := (HB.out.cell (p := ⟨g, _, none⟩) hg).trans c2
      have a3 := (HB.out.cell (p := ⟨g, _, none⟩) hg).trans c3
      have a4 := (HB.out.cell (p := ⟨g, _, none⟩) hg).trans c4
      have b0 := (HB.out.cell (p := ⟨g', _, none⟩) hg').trans d0
      have b1 := (HB.out.cell (p := ⟨g', _, none⟩) hg').trans d1
      have b2 := (HB.out.cell (p := ⟨g', _, none⟩) hg').trans d2
      have b3 := (HB.out.cell (p := ⟨g', _, none⟩) hg').trans d3
      have b4 := (HB.out.cell (p := ⟨g', _, none⟩) hg').trans d4
      clear hc hc' c0 c1 c2 c3 c4 d0 d1 d2 d3 d4
      generalize (L k).fa = x0 at *
      generalize (L k).fs = x1 at *
      generalize (L k).ta = x2 at *
      generalize (L k).ts = x3 at *
      generalize (L k).m = x4 at *
      have hgr : g < wr.heap.size := by omega
      have hgr' : g' < wr.heap.size := by omega
      go_upto_region 6 with fail
      go_region_held3 (fun W => W.cell? ⟨g, o + k * 5, none⟩ = some (.string x0) ∧ W.cell? ⟨g, o + k * 5 + 1, none⟩ = some (.string x1) ∧ W.cell? ⟨g, o + k * 5 + 2, none⟩ = some (.string x2) ∧ W.cell? ⟨g, o + k * 5 + 3, none⟩ = some (.string x3) ∧ W.cell? ⟨g, o + k * 5 + 4, none⟩ = some (.int .i64 x4) ∧ W.cell? ⟨g', o' + k * 5, none⟩ = some (.string x0) ∧ W.cell? ⟨g', o' + k * 5 + 1, none⟩ = some (.string x1) ∧ W.cell? ⟨g', o' + k * 5 + 2, none⟩ = some (.string x2) ∧ W.cell? ⟨g', o' + k * 5 + 3, none⟩ = some (.string x3) ∧ W.cell? ⟨g', o' + k * 5 + 4, none⟩ = some (.int .i64 x4)) (go_keep) (first | (go_at_call 35; refine (eq_leg _ _ _ _ _ _).mono ?_; rintro e w2 ⟨rfl, hb2⟩; have e0 : w2.cell? ⟨g, o + k * 5, none⟩ = some (.string x0) := (hb2.cell (p := ⟨g, o + k * 5, none⟩) hgr).trans a0; have e1 : w2.cell? ⟨g, o + k * 5 + 1, none⟩ = some (.string x1) := (hb2.cell (p := ⟨g, o + k * 5 + 1, none⟩) hgr).trans a1; have e2 : w2.cell? ⟨g, o + k * 5 + 2, none⟩ = some (.string x2) := (hb2.cell (p := ⟨g, o + k * 5 + 2, none⟩) hgr).trans a2; have e3 : w2.cell? ⟨g, o + k * 5 + 3, none⟩ = some (.string x3) := (hb2.cell (p := ⟨g, o + k * 5 + 3, none⟩) hgr).trans a3; have e4 : w2.cell? ⟨g, o + k * 5 + 4, none⟩ = some (.int .i64 x4) := (hb2.cell (p := ⟨g, o + k * 5 + 4, none⟩) hgr).trans a4; have f0 : w2.cell? ⟨g', o' + k * 5, none⟩ = some (.string x0) := (hb2.cell (p := ⟨g', o' + k * 5, none⟩) hgr').trans b0; have f1 : w2.cell? ⟨g', o' + k * 5 + 1, none⟩ = some (.string x1) := (hb2.cell (p := ⟨g', o' + k * 5 + 1, none⟩) hgr').trans b1; have f2 : w2.cell? ⟨g', o' + k * 5 + 2, none⟩ = some (.string x2) := (hb2.cell (p := ⟨g', o' + k * 5 + 2, none⟩) hgr').trans b2; have f3 : w2.cell? ⟨g', o' + k * 5 + 3, none⟩ = some (.string x3) := (hb2.cell (p := ⟨g', o' + k * 5 + 3, none⟩) hgr').trans b3; have f4 : w2.cell? ⟨g', o' + k * 5 + 4, none⟩ = some (.int .i64 x4) := (hb2.cell (p := ⟨g', o' + k * 5 + 4, none⟩) hgr').trans b4))
      have HB2 : Hid (Below w.heap.size w w2) := HB.out.drew.trans (hb2.mono hsr)
      clear hb2 a0 a1 a2 a3 a4 b0 b1 b2 b3 b4 e0 e1 e2 e3 e4 f0 f1 f2 f3 f4
      go_wp2
      go_roundw
      case rel => exact ⟨k + 1, by go_num, by omega, HB2.out⟩
      case measure => simp [intOf]; omega
    · have q0 : decide (k < n) = false := by simpa using hkn
      have q1 : decide ((k : Int) < (n : Int)) = false := by simpa using hkn
      go_wp2_with fail
      go_ret
      exact ⟨rfl, HB.out⟩
end Go.Proofs.YtepkmbfedblhdaaGreatDoor
namespace Go.Proofs.YtepkmbfedblhdaaGreatDoor
open Go.RowKit
open Go.Proofs.YtepkmbfedblhdaaGreatDoor.Draw

def okLeg (x : Lg) : Bool := (nameB x.fa && nameB x.fs) && (nameB x.ta && nameB x.ts) && decide (0 ≤ x.m) && decide (x.m ≤ 1000000000000)
def legsB (n : Nat) (L : Nat → Lg) : Bool := decide (n ≤ 20) && (List.range n).all (fun i => okLeg (L i))
theorem legsB_no {n : Nat} {L : Nat → Lg} {k : Nat} (hk : k < n) (h : okLeg (L k) = false) : legsB n L = false := by
  have : (List.range n).all (fun i => okLeg (L i)) = false := by
    rw [List.all_eq_false]; exact ⟨k, by simpa using hk, by simp [h]⟩
  simp [legsB, this]
theorem legsB_big {n : Nat} {L : Nat → Lg} (h : ¬ n ≤ 20) : legsB n L = false := by simp [legsB, h]
theorem legsB_yes {n : Nat} {L : Nat → Lg} (hn : n ≤ 20) (h : ∀ j, j < n → okLeg (L j) = true) : legsB n L = true := by
  have : (List.range n).all (fun i => okLeg (L i)) = true := by
    rw [List.all_eq_true]; intro x hx; exact h x (by simpa using hx)
  simp [legsB, this, hn]
theorem legsB_iff (n : Nat) (L : Nat → Lg) : legsB n L = true ↔ n ≤ 20 ∧ ∀ j, j < n → okLeg (L j) = true := by
  simp [legsB]
theorem okLeg_iff (x : Lg) : okLeg x = true ↔ (nameB x.fa = true ∧ nameB x.fs = true) ∧ (nameB x.ta = true ∧ nameB x.ts = true) ∧ 0 ≤ x.m ∧ x.m ≤ 1000000000000 := by
  simp [okLeg, and_assoc]

set_option maxRecDepth 100000 in
set_option maxHeartbeats 4000000 in
theorem spec_legs (a : Option Addr) (n cap : Nat) (L : Nat → Lg) (hn : n ≤ 1048576) (hfit : ∀ i, i < n → (L i).fits) (w : World) (h : LegsAt w a n L) :
    Calls Tryz.prog 22 #[.slice a n cap] w fun e w' => e = .returned (.bool (legsB n L)) ∧ Below w.heap.size w w' := by
  have HL : Hid (LegsAt w a n L) := h
  have HF : Hid (∀ i, i < n → (L i).fits) := hfit
  clear h hfit
  by_cases h20 : n ≤ 20
  · have q0 : decide (20 < n) = false := by simp; omega
    have q1 : decide ((20 : Int) < (n : Int)) = false := by simp; omega
    go_enter Tryz.func22, Tryz.ntmps22
    go_wp2_with fail
    go_loopw [3] (fun i wr => ∃ k : Nat, i = .int .i64 (k : Int) ∧ k ≤ n ∧ Hid (∀ j, j < k → okLeg (L j) = true) ∧ Hid (Below w.heap.size w wr)) (fun i _ => n - (intOf i).toNat)
    case atStart => exact ⟨0, rfl, by omega, fun j hj => by omega, Below.refl _ _⟩
    case round =>
      obtain ⟨k, rfl, hk, HS, HB⟩ := hrel
      by_cases hkn : k < n
      · have p0 : decide (k < n) = true := by simpa using hkn
        have p1 : decide ((k : Int) < (n : Int)) = true := by simpa using hkn
        rcases HL.out with h0 | ⟨g, o, rfl, hg, hc⟩
        · omega
        obtain ⟨c0, c1, c2, c3, c4⟩ := hc k hkn
        have d0 := (HB.out.cell (p := ⟨g, _, none⟩) hg).trans c0
        have d1 := (HB.out.cell (p := ⟨g, _, none⟩) hg).trans c1
        have d2 := (HB.out.cell (p := ⟨g, _, none⟩) hg).trans c2
        have d3 := (HB.out.cell (p := ⟨g, _, none⟩) hg).trans c3
        have d4 := (HB.out.cell (p := ⟨g, _, none⟩) hg).trans c4
        obtain ⟨f0, f1, f2, f3⟩ := HF.out k hkn
        have HS' : Hid (okLeg (L k) = true → ∀ j, j < k + 1 → okLeg (L j) = true) := fun hsm j hj => by
          by_cases e : j = k
          · rw [e]; exact hsm
          · exact HS.out j (by omega)
        have HNO : Hid (okLeg (L k) = false → legsB n L = false) := legsB_no hkn
        have H1 := fun W => spec_names (L k).fa (L k).fs f0 f1 W
        have H2 := fun W => spec_names (L k).ta (L k).ts f2 f3 W
        have HOK : Hid (okLeg (L k) = ((nameB (L k).fa && nameB (L k).fs) && (nameB (L k).ta && nameB (L k).ts) && decide (0 ≤ (L k).m) && decide ((L k).m ≤ 1000000000000))) := rfl
        clear hc HS f0 f1 f2 f3 c0 c1 c2 c3 c4
        generalize okLeg (L k) = ok at *
        generalize (nameB (L k).fa && nameB (L k).fs) = A at *
        generalize (nameB (L k).ta && nameB (L k).ts) = B at *
        generalize (L k).fa = x0 at *
        generalize (L k).fs = x1 at *
        generalize (L k).ta = x2 at *
        generalize (L k).ts = x3 at *
        generalize (L k).m = x4 at *
        have H1 : Hid (∀ W, Calls Tryz.prog 43 #[.agg #[.string x0, .string x1]] W fun e w' => e = .returned (.bool A) ∧ Below W.heap.size W w') := H1
        have H2 : Hid (∀ W, Calls Tryz.prog 43 #[.agg #[.string x2, .string x3]] W fun e w' => e = .returned (.bool B) ∧ Below W.heap.size W w') := H2
        have hgr : g < wr.heap.size := Nat.lt_of_lt_of_le hg HB.out.size
        go_wp2_with fail
        refine (H1.out _).mono ?_
        rintro e w1 ⟨rfl, hb1⟩
        have HB1 : Hid (Below w.heap.size w w1) := HB.out.trans (hb1.mono HB.out.size)
        have e2 := (hb1.cell (p := ⟨g, _, none⟩) hgr).trans d2
        have e3 := (hb1.cell (p := ⟨g, _, none⟩) hgr).trans d3
        have e4 := (hb1.cell (p := ⟨g, _, none⟩) hgr).trans d4
        have hgr1 : g < w1.heap.size := Nat.lt_of_lt_of_le hgr hb1.size
        clear d0 d1 d2 d3 d4 hb1
        cases A
        · have HX : Hid (legsB n L = false) := HNO.out (by rw [HOK.out]; rfl)
          go_wp2_with fail
          go_ret
          exact ⟨ret_bool HX.out.symm, HB1.out⟩
        go_wp2_with fail
        refine (H2.out _).mono ?_
        rintro e w2 ⟨rfl, hb2⟩
        have HB2 : Hid (Below w.heap.size w w2) := HB1.out.trans (hb2.mono HB1.out.size)
        have f4 := (hb2.cell (p := ⟨g, _, none⟩) hgr1).trans e4
        clear e2 e3 e4 hb2
        cases B
        · have HX : Hid (legsB n L = false) := HNO.out (by rw [HOK.out]; rfl)
          go_wp2_with fail
          go_ret
          exact ⟨ret_bool HX.out.symm, HB2.out⟩
        by_cases m0 : 0 ≤ x4
        · have t0 : decide (x4 < 0) = false := by simp; omega
          by_cases m1 : x4 ≤ 1000000000000
          · have t1 : decide (1000000000000 < x4) = false := by simp; omega
            have HY : Hid (∀ j, j < k + 1 → okLeg (L j) = true) := HS'.out (by rw [HOK.out]; simp [m0, m1])
            go_wp2_with fail
            go_roundw
            case rel => exact ⟨k + 1, by go_num, by omega, HY, HB2⟩
            case measure => simp [intOf]; omega
          · have t1 : decide (1000000000000 < x4) = true := by simp; omega
            have HX : Hid (legsB n L = false) := HNO.out (by rw [HOK.out]; simp [m1])
            go_wp2_with fail
            go_ret
            exact ⟨ret_bool HX.out.symm, HB2.out⟩
        · have t0 : decide (x4 < 0) = true := by simp; omega
          have HX : Hid (legsB n L = false) := HNO.out (by rw [HOK.out]; simp [m0])
          go_wp2_with fail
          go_ret
          exact ⟨ret_bool HX.out.symm, HB2.out⟩
      · have p0 : decide (k < n) = false := by simpa using hkn
        have p1 : decide ((k : Int) < (n : Int)) = false := by simpa using hkn
        obtain rfl : k = n := by omega
        go_wp2_with fail
        go_ret
        exact ⟨ret_bool (legsB_yes h20 HS.out).symm, HB.out⟩
  · have q0 : decide (20 < n) = true := by simp; omega
    have q1 : decide ((20 : Int) < (n : Int)) = true := by simp; omega
    go_enter Tryz.func22, Tryz.ntmps22
    go_wp2_with fail
    go_ret
    exact ⟨ret_bool (legsB_big h20).symm, Below.refl _ _⟩
set_option maxRecDepth 100000 in
set_option maxHeartbeats 4000000 in
theorem impl_legs (a : Option Addr) (n cap : Nat) (L : Nat → Lg) (hn : n ≤ 1048576) (hfit : ∀ i, i < n → (L i).fits) (w : World) (h : LegsAt w a n L) :
    Calls Tryz.prog 28 #[.slice a n cap] w fun e w' => e = .returned (.bool (legsB n L)) ∧ Below w.heap.size w w' := by
  have HL : Hid (LegsAt w a n L) := h
  have HF : Hid (∀ i, i < n → (L i).fits) := hfit
  clear h hfit
  by_cases h20 : n ≤ 20
  · have q0 : decide (20 < n) = false := by simp; omega
    have q1 : decide ((20 : Int) < (n : Int)) = false := by simp; omega
    go_enter Tryz.func28, Tryz.ntmps28
    go_wp2_with fail
    go_loopw [10] (fun i wr => ∃ k : Nat, i = .int .i64 (k : Int) ∧ k ≤ n ∧ Hid (∀ j, j < k → okLeg (L j) = true) ∧ Hid (Below w.heap.size w wr)) (fun i _ => n - (intOf i).toNat)
    case atStart => exact ⟨0, rfl, by omega, fun j hj => by omega, Below.refl _ _⟩
    case round =>
      obtain ⟨k, rfl, hk, HS, HB⟩ := hrel
      by_cases hkn : k < n
      · have p0 : decide (k < n) = true := by simpa using hkn
        have p1 : decide ((k : Int) < (n : Int)) = true := by simpa using hkn
        rcases HL.out with h0 | ⟨g, o, rfl, hg, hc⟩
        · omega
        obtain ⟨c0, c1, c2, c3, c4⟩ := hc k hkn
        have d0 := (HB.out.cell (p := ⟨g, _, none⟩) hg).trans c0
        have d1 := (HB.out.cell (p := ⟨g, _, none⟩) hg).trans c1
        have d2 := (HB.out.cell (p := ⟨g, _, none⟩) hg).trans c2
        have d3 := (HB.out.cell (p := ⟨g, _, none⟩) hg).trans c3
        have d4 := (HB.out.cell (p := ⟨g, _, none⟩) hg).trans c4
        obtain ⟨f0, f1, f2, f3⟩ := HF.out k hkn
        have HS' : Hid (okLeg (L k) = true → ∀ j, j < k + 1 → okLeg (L j) = true) := fun hsm j hj => by
          by_cases e : j = k
          · rw [e]; exact hsm
          · exact HS.out j (by omega)
        have HNO : Hid (okLeg (L k) = false → legsB n L = false) := legsB_no hkn
        have H1 := fun W => impl_spot (L k).fa (L k).fs f0 f1 W
        have H2 := fun W => impl_spot (L k).ta (L k).ts f2 f3 W
        have HOK : Hid (okLeg (L k) = ((nameB (L k).fa && nameB (L k).fs) && (nameB (L k).ta && nameB (L k).ts) && decide (0 ≤ (L k).m) && decide ((L k).m ≤ 1000000000000))) := rfl
        clear hc HS f0 f1 f2 f3 c0 c1 c2 c3 c4
        generalize okLeg (L k) = ok at *
        generalize (nameB (L k).fa && nameB (L k).fs) = A at *
        generalize (nameB (L k).ta && nameB (L k).ts) = B at *
        generalize (L k).fa = x0 at *
        generalize (L k).fs = x1 at *
        generalize (L k).ta = x2 at *
        generalize (L k).ts = x3 at *
        generalize (L k).m = x4 at *
        have H1 : Hid (∀ W, Calls Tryz.prog 51 #[.agg #[.string x0, .string x1]] W fun e w' => e = .returned (.bool A) ∧ Below W.heap.size W w') := H1
        have H2 : Hid (∀ W, Calls Tryz.prog 51 #[.agg #[.string x2, .string x3]] W fun e w' => e = .returned (.bool B) ∧ Below W.heap.size W w') := H2
        have hgr : g < wr.heap.size := Nat.lt_of_lt_of_le hg HB.out.size
        go_wp2_with fail
        refine (H1.out _).mono ?_
        rintro e w1 ⟨rfl, hb1⟩
        have hz1 : wr.heap.size < w1.heap.size := by have := hb1.size; simp at this; omega
        have HB1 : Hid (Below w.heap.size w w1) := (HB.out.alloc HB.out.size _).trans (hb1.mono (by have := HB.out.size; simp; omega))
        have e2 : w1.cell? ⟨wr.heap.size, 2, none⟩ = some (.string x2) := (hb1.cell (p := ⟨wr.heap.size, 2, none⟩) (by simp)).trans (by simp)
        have e3 : w1.cell? ⟨wr.heap.size, 3, none⟩ = some (.string x3) := (hb1.cell (p := ⟨wr.heap.size, 3, none⟩) (by simp)).trans (by simp)
        have e4 : w1.cell? ⟨wr.heap.size, 4, none⟩ = some (.int .i64 x4) := (hb1.cell (p := ⟨wr.heap.size, 4, none⟩) (by simp)).trans (by simp)
        clear d0 d1 d2 d3 d4 hb1
        cases A
        · have HX : Hid (legsB n L = false) := HNO.out (by rw [HOK.out]; rfl)
          go_wp2_with fail
          go_ret
          exact ⟨ret_bool HX.out.symm, HB1.out⟩
        go_wp2_with fail
        refine (H2.out _).mono ?_
        rintro e w2 ⟨rfl, hb2⟩
        have HB2 : Hid (Below w.heap.size w w2) := HB1.out.trans (hb2.mono HB1.out.size)
        have f4 := (hb2.cell (p := ⟨wr.heap.size, _, none⟩) hz1).trans e4
        clear e2 e3 e4 hb2
        cases B
        · have HX : Hid (legsB n L = false) := HNO.out (by rw [HOK.out]; rfl)
          go_wp2_with fail
          go_ret
          exact ⟨ret_bool HX.out.symm, HB2.out⟩
        by_cases m0 : 0 ≤ x4
        · have t0 : decide (x4 < 0) = false := by simp; omega
          by_cases m1 : x4 ≤ 1000000000000
          · have t1 : decide (1000000000000 < x4) = false := by simp; omega
            have HY : Hid (∀ j, j < k + 1 → okLeg (L j) = true) := HS'.out (by rw [HOK.out]; simp [m0, m1])
            have hR : rightB x4 = true := rightB_yes (by omega) m1
            go_wp2_with fail
            refine (impl_right x4 _).mono ?_
            rintro e w3 ⟨rfl, rfl⟩
            rw [hR]
            go_wp2_with fail
            go_roundw
            case rel => exact ⟨k + 1, by go_num, by omega, HY, HB2⟩
            case measure => simp [intOf]; omega
          · have t1 : decide (1000000000000 < x4) = true := by simp; omega
            have HX : Hid (legsB n L = false) := HNO.out (by rw [HOK.out]; simp [m1])
            have hR : rightB x4 = false := rightB_no (Or.inr (by omega))
            go_wp2_with fail
            refine (impl_right x4 _).mono ?_
            rintro e w3 ⟨rfl, rfl⟩
            rw [hR]
            go_wp2_with fail
            go_ret
            exact ⟨ret_bool HX.out.symm, HB2.out⟩
        · have t0 : decide (x4 < 0) = true := by simp; omega
          have HX : Hid (legsB n L = false) := HNO.out (by rw [HOK.out]; simp [m0])
          go_wp2_with fail
          go_ret
          exact ⟨ret_bool HX.out.symm, HB2.out⟩
      · have p0 : decide (k < n) = false := by simpa using hkn
        have p1 : decide ((k : Int) < (n : Int)) = false := by simpa using hkn
        obtain rfl : k = n := by omega
        go_wp2_with fail
        go_ret
        exact ⟨ret_bool (legsB_yes h20 HS.out).symm, HB.out⟩
  · have q0 : decide (20 < n) = true := by simp; omega
    have q1 : decide ((20 : Int) < (n : Int)) = true := by simp; omega
    go_enter Tryz.func28, Tryz.ntmps28
    go_wp2_with fail
    go_ret
    exact ⟨ret_bool (legsB_big h20).symm, Below.refl _ _⟩
end Go.Proofs.YtepkmbfedblhdaaGreatDoor
namespace Go.Proofs.YtepkmbfedblhdaaGreatDoor
open Go.RowKit
open Go.Proofs.YtepkmbfedblhdaaGreatDoor.Draw

set_option maxRecDepth 100000 in
set_option maxHeartbeats 8000000 in
theorem spec_bookRight (a b : Option Addr) (n m cap cap' : Nat) (L : Nat → Ln) (I : Nat → Tx) (hn : n ≤ 1048576) (hm : m ≤ 1048576) (hf : ∀ i, i < n → (L i).fits) (hfi : ∀ i, i < m → (I i).fits) (w : World) (h : LinesAt w a n L) (h' : TextsAt w b m I) :
    Calls Tryz.prog 20 #[.agg #[.slice a n cap, .slice b m cap']] w fun e w' => e = .returned (.bool (bookB n m L I)) ∧ Below w.heap.size w w' := by
  have HL : Hid (LinesAt w a n L) := h
  have HF : Hid (∀ i, i < n → (L i).fits) := hf
  have HB0 : Hid (Below w.heap.size w (w.alloc (.cells #[.slice a n cap, .slice b m cap'] 31))) := (Below.refl _ _).alloc (Nat.le_refl _) _
  have HI := spec_ids b m cap' I hm hfi (w.alloc (.cells #[.slice a n cap, .slice b m cap'] 31)) (h'.below HB0.out)
  clear h h' hf hfi
  have HBB : Hid (bookB n m L I = (linesB n L && idsB m I && (sumL L n == 0))) := rfl
  by_cases hl1 : ¬ n ≤ 60
  · have z0 : decide (60 < n) = true := by simp; omega
    have z1 : decide ((60 : Int) < (n : Int)) = true := by simp; omega
    have HX : Hid (bookB n m L I = false) := by rw [Hid, HBB.out]; simp [linesB, hl1]
    go_enter Tryz.func20, Tryz.ntmps20
    go_wp2_with fail
    go_ret
    exact ⟨ret_bool HX.out.symm, HB0.out⟩
  have z0 : decide (60 < n) = false := by simp; omega
  have z1 : decide ((60 : Int) < (n : Int)) = false := by simp; omega
  by_cases hl2 : ¬ m ≤ 100
  · have y0 : decide (100 < m) = true := by simp; omega
    have y1 : decide ((100 : Int) < (m : Int)) = true := by simp; omega
    have HX : Hid (bookB n m L I = false) := by rw [Hid, HBB.out]; simp [idsB, hl2]
    go_enter Tryz.func20, Tryz.ntmps20
    go_wp2_with fail
    go_ret
    exact ⟨ret_bool HX.out.symm, HB0.out⟩
  have y0 : decide (100 < m) = false := by simp; omega
  have y1 : decide ((100 : Int) < (m : Int)) = false := by simp; omega
  have hl1 : n ≤ 60 := by omega
  have hl2 : m ≤ 100 := by omega
  have HID : Hid (idsB m I = (List.range m).all (okId I)) := by simp [Hid, idsB, hl2]
  generalize (List.range m).all (okId I) = J at *
  have HI : Hid (Calls Tryz.prog 42 #[.slice b m cap'] (w.alloc (.cells #[.slice a n cap, .slice b m cap'] 31)) fun e w' => e = .returned (.bool J) ∧ Below (w.alloc (.cells #[.slice a n cap, .slice b m cap'] 31)).heap.size (w.alloc (.cells #[.slice a n cap, .slice b m cap'] 31)) w') := HI
  go_enter Tryz.func20, Tryz.ntmps20
  go_wp2_with fail
  refine HI.out.mono ?_
  rintro e w1 ⟨rfl, hb1⟩
  have HB1 : Hid (Below w.heap.size w w1) := HB0.out.trans (hb1.mono (by simp))
  have cB : w1.cell? ⟨w.heap.size, 0, none⟩ = some (.slice a n cap) := (hb1.cell (p := ⟨w.heap.size, 0, none⟩) (by simp)).trans (by simp)
  have hB1 : w.heap.size < w1.heap.size := by have := hb1.size; simp at this; omega
  have HCB : Hid (w1.cell? ⟨w.heap.size, 0, none⟩ = some (.slice a n cap)) := cB
  clear hb1 HI
  cases J
  · have HX : Hid (bookB n m L I = false) := by rw [Hid, HBB.out, HID.out]; simp
    go_wp2_with fail
    go_ret
    exact ⟨ret_bool HX.out.symm, HB1.out⟩
  go_wp2_with fail
  go_loopw [3, 4] (fun s i wr => ∃ k : Nat, i = .int .i64 (k : Int) ∧ s = .int .i64 (sumL L k) ∧ k ≤ n ∧ Hid (∀ j, j < k → okLine L j = true) ∧ Hid (Below w1.heap.size w1 wr)) (fun _ i _ => n - (intOf i).toNat)
  case atStart => exact ⟨0, rfl, rfl, by omega, fun j hj => by omega, Below.refl _ _⟩
  case round =>
    obtain ⟨k, rfl, rfl, hk, HS, HBr⟩ := hrel
    have HB : Hid (Below w.heap.size w wr) := HB1.out.trans (HBr.out.mono HB1.out.size)
    have cB := (HBr.out.cell (p := ⟨w.heap.size, 0, none⟩) hB1).trans HCB.out
    have hBr : w.heap.size < wr.heap.size := Nat.lt_of_lt_of_le hB1 HBr.out.size
    by_cases hkn : k < n
    · have p0 : decide (k < n) = true := by simpa using hkn
      have p1 : decide ((k : Int) < (n : Int)) = true := by simpa using hkn
      rcases HL.out with h0 | ⟨g, o, rfl, hg, hc⟩
      · omega
      obtain ⟨c0, c1, c2⟩ := hc k hkn
      have d0 := (HB.out.cell (p := ⟨g, _, none⟩) hg).trans c0
      have d1 := (HB.out.cell (p := ⟨g, _, none⟩) hg).trans c1
      have d2 := (HB.out.cell (p := ⟨g, _, none⟩) hg).trans c2
      obtain ⟨f0, f1⟩ := HF.out k hkn
      have HS' : Hid (okLine L k = true → ∀ j, j < k + 1 → okLine L j = true) := fun hsm j hj => by
        by_cases e : j = k
        · rw [e]; exact hsm
        · exact HS.out j (by omega)
      have HNO : Hid (okLine L k = false → bookB n m L I = false) := fun h => by rw [HBB.out, linesB_no hkn h]; rfl
      have H1 := fun W => spec_names (L k).a (L k).s f0 f1 W
      have HOK : Hid (okLine L k = ((nameB (L k).a && nameB (L k).s) && rightB (L k).m && (decide (k = 0) || lessP (L (k - 1)).a (L (k - 1)).s (L k).a (L k).s))) := rfl
      have HSUM : Hid (sumL L (k + 1) = sumL L k + (L k).m) := rfl
      obtain ⟨q, hq⟩ : ∃ q, q = L (k - 1) := ⟨_, rfl⟩
      have HQ : Hid (0 < k → w.cell? ⟨g, o + (k - 1) * 3, none⟩ = some (.string q.a) ∧ w.cell? ⟨g, o + (k - 1) * 3 + 1, none⟩ = some (.string q.s) ∧ w.cell? ⟨g, o + (k - 1) * 3 + 2, none⟩ = some (.int .i64 q.m)) := fun h => by rw [hq]; exact hc (k - 1) (by omega)
      rw [← hq] at HOK
      obtain ⟨l0, l1⟩ := sumL_le (n := k) HS.out k (Nat.le_refl _)
      clear hc HS f0 f1 c0 c1 c2 hq
      generalize okLine L k = ok at *
      generalize sumL L k = sk at *
      generalize (nameB (L k).a && nameB (L k).s) = A at *
      have HM := fun W => spec_right (L k).m W
      generalize hRR : rightB (L k).m = R at *
      have HRR : Hid (R = true → -1000000000000 ≤ (L k).m ∧ (L k).m ≤ 1000000000000) := fun h => (rightB_iff _).1 (hRR.trans h)
      clear hRR
      generalize (L k).a = x0 at *
      generalize (L k).s = x1 at *
      generalize (L k).m = x2 at *
      have H1 : Hid (∀ W, Calls Tryz.prog 43 #[.agg #[.string x0, .string x1]] W fun e w' => e = .returned (.bool A) ∧ Below W.heap.size W w') := H1
      have HM : Hid (∀ W, Calls Tryz.prog 44 #[.int .i64 x2] W fun e w' => e = .returned (.bool R) ∧ w' = W) := HM
      have hne : wr.heap.size ≠ w.heap.size := by omega
      have hsk : sk + x2 = sk + x2 := rfl
      go_upto_region 8 with fail
      obtain ⟨W, hW⟩ : ∃ W, W = wr.alloc (.cells #[.string x0, .string x1, .int .i64 x2] 84) := ⟨_, rfl⟩
      have HBW : Hid (Below w1.heap.size w1 W) := by rw [Hid, hW]; exact HBr.out.alloc HBr.out.size _
      have e0 : W.cell? ⟨wr.heap.size, 0, none⟩ = some (.string x0) := by rw [hW]; simp
      have e1 : W.cell? ⟨wr.heap.size, 1, none⟩ = some (.string x1) := by rw [hW]; simp
      have e2 : W.cell? ⟨wr.heap.size, 2, none⟩ = some (.int .i64 x2) := by rw [hW]; simp
      have hQl : wr.heap.size < W.heap.size := by rw [hW]; simp
      have eB : W.cell? ⟨w.heap.size, 0, none⟩ = some (.slice (some ⟨g, o, none⟩) n cap) := (HBW.out.cell (p := ⟨w.heap.size, 0, none⟩) hB1).trans HCB.out
      have hBl : w.heap.size < W.heap.size := by omega
      rw [← hW]
      clear hW d0 d1 d2 cB
      obtain ⟨Q, hQ⟩ : ∃ Q, Q = wr.heap.size := ⟨_, rfl⟩
      rw [← hQ] at e0 e1 e2 hQl ⊢
      clear hQ
      cases A
      · have HX : Hid (bookB n m L I = false) := HNO.out (by rw [HOK.out]; rfl)
        refine wp_region_any (by kernel_rfl) ?_
        try (change wpAny _ _ _ _ _ _ _ (World.drew _))
        refine wpAny_take (i := 0) (v := ?_) rfl (by kernel_rfl) (by kernel_rfl) (by kernel_rfl) (fun _ _ _ h => h) (Or.inl ⟨by rfl, ?_⟩) ?_
        rotate_left 1
        · first | (intro w; go_simp; done) | (intro w; go_simp; with_reducible rfl)
        try go_simp
        refine wpAny_ready (rs := [1]) (by kernel_rfl) (by simp) ?_
        refine AllReady.cons rfl (fun K hK => ?_) AllReady.nil
        go_simp
        refine hK _ _ ?_
        clear hK K
        refine wpAny_ready (rs := [2]) (by kernel_rfl) (by simp) ?_
        refine AllReady.cons rfl (fun K hK => ?_) AllReady.nil
        go_simp
        go_wp2_with (first | (go_at_call 43; refine (H1.out _).mono ?_; rintro e w3 ⟨rfl, hb⟩; have s2 : w3.cell? ⟨Q, 2, none⟩ = some (.int .i64 x2) := (hb.cell (p := ⟨Q, 2, none⟩) hQl).trans e2))
        refine wpAny_take (i := 3) (v := ?_) rfl (by kernel_rfl) (by kernel_rfl) (by kernel_rfl) (fun _ _ _ h => h) (Or.inl ⟨by rfl, ?_⟩) ?_
        rotate_left 1
        · first | (intro w; go_simp; done) | (intro w; go_simp; with_reducible rfl)
        try go_simp
        refine wpAny_take (i := 4) (v := ?_) rfl (by kernel_rfl) (by kernel_rfl) (by kernel_rfl) (fun _ _ _ h => h) (Or.inl ⟨by rfl, ?_⟩) ?_
        rotate_left 1
        · first | (intro w; go_simp; done) | (intro w; go_simp; with_reducible rfl)
        try go_simp
        refine wpAny_take (i := 5) (v := undef) rfl (by kernel_rfl) (by kernel_rfl) (by kernel_rfl) (fun _ _ _ h => h) (Or.inr ⟨by rfl, rfl⟩) ?_
        try go_simp
        refine wpAny_take (i := 6) (v := undef) rfl (by kernel_rfl) (by kernel_rfl) (by kernel_rfl) (fun _ _ _ h => h) (Or.inr ⟨by rfl, rfl⟩) ?_
        try go_simp
        refine wpAny_take (i := 7) (v := undef) rfl (by kernel_rfl) (by kernel_rfl) (by kernel_rfl) (fun _ _ _ h => h) (Or.inr ⟨by rfl, rfl⟩) ?_
        try go_simp
        refine wpAny_take (i := 8) (v := undef) rfl (by kernel_rfl) (by kernel_rfl) (by kernel_rfl) (fun _ _ _ h => h) (Or.inr ⟨by rfl, rfl⟩) ?_
        try go_simp
        refine wpAny_take (i := 9) (v := ?_) rfl (by kernel_rfl) (by kernel_rfl) (by kernel_rfl) (fun _ _ _ h => h) (Or.inl ⟨by rfl, ?_⟩) ?_
        rotate_left 1
        · first | (intro w; go_simp; done) | (intro w; go_simp; with_reducible rfl)
        try go_simp
        refine wpAny_take (i := 10) (v := ?_) rfl (by kernel_rfl) (by kernel_rfl) (by kernel_rfl) (fun _ _ _ h => h) (Or.inl ⟨by rfl, ?_⟩) ?_
        rotate_left 1
        · first | (intro w; go_simp; done) | (intro w; go_simp; with_reducible rfl)
        try go_simp
        refine wpAny_take (i := 11) (v := undef) rfl (by kernel_rfl) (by kernel_rfl) (by kernel_rfl) (fun _ _ _ h => h) (Or.inr ⟨by rfl, rfl⟩) ?_
        try go_simp
        refine wpAny_take (i := 12) (v := undef) rfl (by kernel_rfl) (by kernel_rfl) (by kernel_rfl) (fun _ _ _ h => h) (Or.inr ⟨by rfl, rfl⟩) ?_
        try go_simp
        refine wpAny_take (i := 13) (v := undef) rfl (by kernel_rfl) (by kernel_rfl) (by kernel_rfl) (fun _ _ _ h => h) (Or.inr ⟨by rfl, rfl⟩) ?_
        try go_simp
        refine wpAny_take (i := 14) (v := undef) rfl (by kernel_rfl) (by kernel_rfl) (by kernel_rfl) (fun _ _ _ h => h) (Or.inr ⟨by rfl, rfl⟩) ?_
        try go_simp
        refine wpAny_take (i := 15) (v := undef) rfl (by kernel_rfl) (by kernel_rfl) (by kernel_rfl) (fun _ _ _ h => h) (Or.inr ⟨by rfl, rfl⟩) ?_
        try go_simp
        refine wpAny_take (i := 16) (v := undef) rfl (by kernel_rfl) (by kernel_rfl) (by kernel_rfl) (fun _ _ _ h => h) (Or.inr ⟨by rfl, rfl⟩) ?_
        try go_simp
        refine wpAny_take (i := 17) (v := undef) rfl (by kernel_rfl) (by kernel_rfl) (by kernel_rfl) (fun _ _ _ h => h) (Or.inr ⟨by rfl, rfl⟩) ?_
        try go_simp
        refine wpAny_take (i := 18) (v := undef) rfl (by kernel_rfl) (by kernel_rfl) (by kernel_rfl) (fun _ _ _ h => h) (Or.inr ⟨by rfl, rfl⟩) ?_
        try go_simp
        refine wpAny_take (i := 19) (v := undef) rfl (by kernel_rfl) (by kernel_rfl) (by kernel_rfl) (fun _ _ _ h => h) (Or.inr ⟨by rfl, rfl⟩) ?_
        try go_simp
        refine wpAny_take (i := 20) (v := undef) rfl (by kernel_rfl) (by kernel_rfl) (by kernel_rfl) (fun _ _ _ h => h) (Or.inr ⟨by rfl, rfl⟩) ?_
        try go_simp
        refine wpAny_take (i := 21) (v := undef) rfl (by kernel_rfl) (by kernel_rfl) (by kernel_rfl) (fun _ _ _ h => h) (Or.inr ⟨by rfl, rfl⟩) ?_
        try go_simp
        refine wpAny_take (i := 22) (v := undef) rfl (by kernel_rfl) (by kernel_rfl) (by kernel_rfl) (fun _ _ _ h => h) (Or.inr ⟨by rfl, rfl⟩) ?_
        try go_simp
        refine wpAny_take (i := 23) (v := undef) rfl (by kernel_rfl) (by kernel_rfl) (by kernel_rfl) (fun _ _ _ h => h) (Or.inr ⟨by rfl, rfl⟩) ?_
        try go_simp
        refine wpAny_take (i := 24) (v := undef) rfl (by kernel_rfl) (by kernel_rfl) (by kernel_rfl) (fun _ _ _ h => h) (Or.inr ⟨by rfl, rfl⟩) ?_
        try go_simp
        refine wpAny_take (i := 25) (v := undef) rfl (by kernel_rfl) (by kernel_rfl) (by kernel_rfl) (fun _ _ _ h => h) (Or.inr ⟨by rfl, rfl⟩) ?_
        try go_simp
        refine wpAny_take (i := 26) (v := ?_) rfl (by kernel_rfl) (by kernel_rfl) (by kernel_rfl) (fun _ _ _ h => h) (Or.inl ⟨by rfl, ?_⟩) ?_
        rotate_left 1
        · first | (intro w; go_simp; done) | (intro w; go_simp; with_reducible rfl)
        try go_simp
        refine wpAny_done (by kernel_rfl) ?_ _
        have HB3 : Hid (Below w.heap.size w w3) := HB1.out.trans ((HBW.out.drew.trans (hb.mono HBW.out.size)).mono HB1.out.size)
        clear hb
        go_wp2_with fail
        go_ret
        exact ⟨ret_bool HX.out.symm, HB3.out⟩
      cases R
      · have HX : Hid (bookB n m L I = false) := HNO.out (by rw [HOK.out]; rfl)
        refine wp_region_any (by kernel_rfl) ?_
        try (change wpAny _ _ _ _ _ _ _ (World.drew _))
        refine wpAny_take (i := 0) (v := ?_) rfl (by kernel_rfl) (by kernel_rfl) (by kernel_rfl) (fun _ _ _ h => h) (Or.inl ⟨by rfl, ?_⟩) ?_
        rotate_left 1
        · first | (intro w; go_simp; done) | (intro w; go_simp; with_reducible rfl)
        try go_simp
        refine wpAny_ready (rs := [1]) (by kernel_rfl) (by simp) ?_
        refine AllReady.cons rfl (fun K hK => ?_) AllReady.nil
        go_simp
        refine hK _ _ ?_
        clear hK K
        refine wpAny_ready (rs := [2]) (by kernel_rfl) (by simp) ?_
        refine AllReady.cons rfl (fun K hK => ?_) AllReady.nil
        go_simp
        go_wp2_with (first | (go_at_call 43; refine (H1.out _).mono ?_; rintro e w3 ⟨rfl, hb⟩; have s2 : w3.cell? ⟨Q, 2, none⟩ = some (.int .i64 x2) := (hb.cell (p := ⟨Q, 2, none⟩) hQl).trans e2))
        refine wpAny_take (i := 3) (v := ?_) rfl (by kernel_rfl) (by kernel_rfl) (by kernel_rfl) (fun _ _ _ h => h) (Or.inl ⟨by rfl, ?_⟩) ?_
        rotate_left 1
        · first | (intro w; go_simp; done) | (intro w; go_simp; with_reducible rfl)
        try go_simp
        refine wpAny_take (i := 4) (v := ?_) rfl (by kernel_rfl) (by kernel_rfl) (by kernel_rfl) (fun _ _ _ h => h) (Or.inl ⟨by rfl, ?_⟩) ?_
        rotate_left 1
        · first | (intro w; go_simp; done) | (intro w; go_simp; with_reducible rfl)
        try go_simp
        refine wpAny_take (i := 5) (v := ?_) rfl (by kernel_rfl) (by kernel_rfl) (by kernel_rfl) (fun _ _ _ h => h) (Or.inl ⟨by rfl, ?_⟩) ?_
        rotate_left 1
        · first | (intro w; go_simp; done) | (intro w; go_simp; with_reducible rfl)
        try go_simp
        refine wpAny_ready (rs := [6]) (by kernel_rfl) (by simp) ?_
        refine AllReady.cons rfl (fun K hK => ?_) AllReady.nil
        go_simp
        refine hK _ _ ?_
        clear hK K
        refine wpAny_ready (rs := [7]) (by kernel_rfl) (by simp) ?_
        refine AllReady.cons rfl (fun K hK => ?_) AllReady.nil
        go_simp
        go_wp2_with (first | (go_at_call 44; refine (HM.out _).mono ?_; rintro e w4 ⟨rfl, rfl⟩))
        refine wpAny_take (i := 8) (v := ?_) rfl (by kernel_rfl) (by kernel_rfl) (by kernel_rfl) (fun _ _ _ h => h) (Or.inl ⟨by rfl, ?_⟩) ?_
        rotate_left 1
        · first | (intro w; go_simp; done) | (intro w; go_simp; with_reducible rfl)
        try go_simp
        refine wpAny_take (i := 9) (v := ?_) rfl (by kernel_rfl) (by kernel_rfl) (by kernel_rfl) (fun _ _ _ h => h) (Or.inl ⟨by rfl, ?_⟩) ?_
        rotate_left 1
        · first | (intro w; go_simp; done) | (intro w; go_simp; with_reducible rfl)
        try go_simp
        refine wpAny_take (i := 10) (v := ?_) rfl (by kernel_rfl) (by kernel_rfl) (by kernel_rfl) (fun _ _ _ h => h) (Or.inl ⟨by rfl, ?_⟩) ?_
        rotate_left 1
        · first | (intro w; go_simp; done) | (intro w; go_simp; with_reducible rfl)
        try go_simp
        refine wpAny_take (i := 11) (v := undef) rfl (by kernel_rfl) (by kernel_rfl) (by kernel_rfl) (fun _ _ _ h => h) (Or.inr ⟨by rfl, rfl⟩) ?_
        try go_simp
        refine wpAny_take (i := 12) (v := undef) rfl (by kernel_rfl) (by kernel_rfl) (by kernel_rfl) (fun _ _ _ h => h) (Or.inr ⟨by rfl, rfl⟩) ?_
        try go_simp
        refine wpAny_take (i := 13) (v := undef) rfl (by kernel_rfl) (by kernel_rfl) (by kernel_rfl) (fun _ _ _ h => h) (Or.inr ⟨by rfl, rfl⟩) ?_
        try go_simp
        refine wpAny_take (i := 14) (v := undef) rfl (by kernel_rfl) (by kernel_rfl) (by kernel_rfl) (fun _ _ _ h => h) (Or.inr ⟨by rfl, rfl⟩) ?_
        try go_simp
        refine wpAny_take (i := 15) (v := undef) rfl (by kernel_rfl) (by kernel_rfl) (by kernel_rfl) (fun _ _ _ h => h) (Or.inr ⟨by rfl, rfl⟩) ?_
        try go_simp
        refine wpAny_take (i := 16) (v := undef) rfl (by kernel_rfl) (by kernel_rfl) (by kernel_rfl) (fun _ _ _ h => h) (Or.inr ⟨by rfl, rfl⟩) ?_
        try go_simp
        refine wpAny_take (i := 17) (v := undef) rfl (by kernel_rfl) (by kernel_rfl) (by kernel_rfl) (fun _ _ _ h => h) (Or.inr ⟨by rfl, rfl⟩) ?_
        try go_simp
        refine wpAny_take (i := 18) (v := undef) rfl (by kernel_rfl) (by kernel_rfl) (by kernel_rfl) (fun _ _ _ h => h) (Or.inr ⟨by rfl, rfl⟩) ?_
        try go_simp
        refine wpAny_take (i := 19) (v := undef) rfl (by kernel_rfl) (by kernel_rfl) (by kernel_rfl) (fun _ _ _ h => h) (Or.inr ⟨by rfl, rfl⟩) ?_
        try go_simp
        refine wpAny_take (i := 20) (v := undef) rfl (by kernel_rfl) (by kernel_rfl) (by kernel_rfl) (fun _ _ _ h => h) (Or.inr ⟨by rfl, rfl⟩) ?_
        try go_simp
        refine wpAny_take (i := 21) (v := undef) rfl (by kernel_rfl) (by kernel_rfl) (by kernel_rfl) (fun _ _ _ h => h) (Or.inr ⟨by rfl, rfl⟩) ?_
        try go_simp
        refine wpAny_take (i := 22) (v := undef) rfl (by kernel_rfl) (by kernel_rfl) (by kernel_rfl) (fun _ _ _ h => h) (Or.inr ⟨by rfl, rfl⟩) ?_
        try go_simp
        refine wpAny_take (i := 23) (v := undef) rfl (by kernel_rfl) (by kernel_rfl) (by kernel_rfl) (fun _ _ _ h => h) (Or.inr ⟨by rfl, rfl⟩) ?_
        try go_simp
        refine wpAny_take (i := 24) (v := undef) rfl (by kernel_rfl) (by kernel_rfl) (by kernel_rfl) (fun _ _ _ h => h) (Or.inr ⟨by rfl, rfl⟩) ?_
        try go_simp
        refine wpAny_take (i := 25) (v := undef) rfl (by kernel_rfl) (by kernel_rfl) (by kernel_rfl) (fun _ _ _ h => h) (Or.inr ⟨by rfl, rfl⟩) ?_
        try go_simp
        refine wpAny_take (i := 26) (v := ?_) rfl (by kernel_rfl) (by kernel_rfl) (by kernel_rfl) (fun _ _ _ h => h) (Or.inl ⟨by rfl, ?_⟩) ?_
        rotate_left 1
        · first | (intro w; go_simp; done) | (intro w; go_simp; with_reducible rfl)
        try go_simp
        refine wpAny_done (by kernel_rfl) ?_ _
        have HB4 : Hid (Below w.heap.size w w4) := HB1.out.trans ((HBW.out.drew.trans (hb.mono HBW.out.size)).mono HB1.out.size)
        clear hb s2
        go_wp2_with fail
        go_ret
        exact ⟨ret_bool HX.out.symm, HB4.out⟩
      obtain ⟨v0, v1⟩ := HRR.out rfl
      have hsum : IntKind.i64.wrap (sk + x2) = sk + x2 := IntWalk.i64_in _ (by omega)
      rcases Nat.eq_zero_or_pos k with hk0 | hk0
      · subst hk0
        have HY : Hid (∀ j, j < 0 + 1 → okLine L j = true) := HS'.out (by rw [HOK.out]; rfl)
        have u0 : decide ((0 : Int) < 0) = false := rfl
        clear HOK HS' HNO HQ
        refine wp_region_any (by kernel_rfl) ?_
        try (change wpAny _ _ _ _ _ _ _ (World.drew _))
        refine wpAny_take (i := 0) (v := ?_) rfl (by kernel_rfl) (by kernel_rfl) (by kernel_rfl) (fun _ _ _ h => h) (Or.inl ⟨by rfl, ?_⟩) ?_
        rotate_left 1
        · first | (intro w; go_simp; done) | (intro w; go_simp; with_reducible rfl)
        try go_simp
        refine wpAny_ready (rs := [1]) (by kernel_rfl) (by simp) ?_
        refine AllReady.cons rfl (fun K hK => ?_) AllReady.nil
        go_simp
        refine hK _ _ ?_
        clear hK K
        refine wpAny_ready (rs := [2]) (by kernel_rfl) (by simp) ?_
        refine AllReady.cons rfl (fun K hK => ?_) AllReady.nil
        go_simp
        go_wp2_with (first | (go_at_call 43; refine (H1.out _).mono ?_; rintro e w3 ⟨rfl, hb⟩; have s2 : w3.cell? ⟨Q, 2, none⟩ = some (.int .i64 x2) := (hb.cell (p := ⟨Q, 2, none⟩) hQl).trans e2))
        refine wpAny_take (i := 3) (v := ?_) rfl (by kernel_rfl) (by kernel_rfl) (by kernel_rfl) (fun _ _ _ h => h) (Or.inl ⟨by rfl, ?_⟩) ?_
        rotate_left 1
        · first | (intro w; go_simp; done) | (intro w; go_simp; with_reducible rfl)
        try go_simp
        refine wpAny_take (i := 4) (v := ?_) rfl (by kernel_rfl) (by kernel_rfl) (by kernel_rfl) (fun _ _ _ h => h) (Or.inl ⟨by rfl, ?_⟩) ?_
        rotate_left 1
        · first | (intro w; go_simp; done) | (intro w; go_simp; with_reducible rfl)
        try go_simp
        refine wpAny_take (i := 5) (v := ?_) rfl (by kernel_rfl) (by kernel_rfl) (by kernel_rfl) (fun _ _ _ h => h) (Or.inl ⟨by rfl, ?_⟩) ?_
        rotate_left 1
        · first | (intro w; go_simp; done) | (intro w; go_simp; with_reducible rfl)
        try go_simp
        refine wpAny_ready (rs := [6]) (by kernel_rfl) (by simp) ?_
        refine AllReady.cons rfl (fun K hK => ?_) AllReady.nil
        go_simp
        refine hK _ _ ?_
        clear hK K
        refine wpAny_ready (rs := [7]) (by kernel_rfl) (by simp) ?_
        refine AllReady.cons rfl (fun K hK => ?_) AllReady.nil
        go_simp
        go_wp2_with (first | (go_at_call 44; refine (HM.out _).mono ?_; rintro e w4 ⟨rfl, rfl⟩))
        refine wpAny_take (i := 8) (v := ?_) rfl (by kernel_rfl) (by kernel_rfl) (by kernel_rfl) (fun _ _ _ h => h) (Or.inl ⟨by rfl, ?_⟩) ?_
        rotate_left 1
        · first | (intro w; go_simp; done) | (intro w; go_simp; with_reducible rfl)
        try go_simp
        refine wpAny_take (i := 9) (v := ?_) rfl (by kernel_rfl) (by kernel_rfl) (by kernel_rfl) (fun _ _ _ h => h) (Or.inl ⟨by rfl, ?_⟩) ?_
        rotate_left 1
        · first | (intro w; go_simp; done) | (intro w; go_simp; with_reducible rfl)
        try go_simp
        refine wpAny_take (i := 10) (v := ?_) rfl (by kernel_rfl) (by kernel_rfl) (by kernel_rfl) (fun _ _ _ h => h) (Or.inl ⟨by rfl, ?_⟩) ?_
        rotate_left 1
        · first | (intro w; go_simp; done) | (intro w; go_simp; with_reducible rfl)
        try go_simp
        refine wpAny_take (i := 11) (v := ?_) rfl (by kernel_rfl) (by kernel_rfl) (by kernel_rfl) (fun _ _ _ h => h) (Or.inl ⟨by rfl, ?_⟩) ?_
        rotate_left 1
        · first | (intro w; go_simp; done) | (intro w; go_simp; with_reducible rfl)
        try go_simp
        refine wpAny_take (i := 12) (v := ?_) rfl (by kernel_rfl) (by kernel_rfl) (by kernel_rfl) (fun _ _ _ h => h) (Or.inl ⟨by rfl, ?_⟩) ?_
        rotate_left 1
        · first | (intro w; go_simp; done) | (intro w; go_simp; with_reducible rfl)
        try go_simp
        refine wpAny_take (i := 13) (v := ?_) rfl (by kernel_rfl) (by kernel_rfl) (by kernel_rfl) (fun _ _ _ h => h) (Or.inl ⟨by rfl, ?_⟩) ?_
        rotate_left 1
        · first | (intro w; go_simp; done) | (intro w; go_simp; with_reducible rfl)
        try go_simp
        refine wpAny_take (i := 14) (v := undef) rfl (by kernel_rfl) (by kernel_rfl) (by kernel_rfl) (fun _ _ _ h => h) (Or.inr ⟨by rfl, rfl⟩) ?_
        try go_simp
        refine wpAny_take (i := 15) (v := undef) rfl (by kernel_rfl) (by kernel_rfl) (by kernel_rfl) (fun _ _ _ h => h) (Or.inr ⟨by rfl, rfl⟩) ?_
        try go_simp
        refine wpAny_take (i := 16) (v := undef) rfl (by kernel_rfl) (by kernel_rfl) (by kernel_rfl) (fun _ _ _ h => h) (Or.inr ⟨by rfl, rfl⟩) ?_
        try go_simp
        refine wpAny_take (i := 17) (v := undef) rfl (by kernel_rfl) (by kernel_rfl) (by kernel_rfl) (fun _ _ _ h => h) (Or.inr ⟨by rfl, rfl⟩) ?_
        try go_simp
        refine wpAny_take (i := 18) (v := undef) rfl (by kernel_rfl) (by kernel_rfl) (by kernel_rfl) (fun _ _ _ h => h) (Or.inr ⟨by rfl, rfl⟩) ?_
        try go_simp
        refine wpAny_take (i := 19) (v := undef) rfl (by kernel_rfl) (by kernel_rfl) (by kernel_rfl) (fun _ _ _ h => h) (Or.inr ⟨by rfl, rfl⟩) ?_
        try go_simp
        refine wpAny_take (i := 20) (v := undef) rfl (by kernel_rfl) (by kernel_rfl) (by kernel_rfl) (fun _ _ _ h => h) (Or.inr ⟨by rfl, rfl⟩) ?_
        try go_simp
        refine wpAny_take (i := 21) (v := undef) rfl (by kernel_rfl) (by kernel_rfl) (by kernel_rfl) (fun _ _ _ h => h) (Or.inr ⟨by rfl, rfl⟩) ?_
        try go_simp
        refine wpAny_take (i := 22) (v := undef) rfl (by kernel_rfl) (by kernel_rfl) (by kernel_rfl) (fun _ _ _ h => h) (Or.inr ⟨by rfl, rfl⟩) ?_
        try go_simp
        refine wpAny_take (i := 23) (v := undef) rfl (by kernel_rfl) (by kernel_rfl) (by kernel_rfl) (fun _ _ _ h => h) (Or.inr ⟨by rfl, rfl⟩) ?_
        try go_simp
        refine wpAny_take (i := 24) (v := undef) rfl (by kernel_rfl) (by kernel_rfl) (by kernel_rfl) (fun _ _ _ h => h) (Or.inr ⟨by rfl, rfl⟩) ?_
        try go_simp
        refine wpAny_take (i := 25) (v := ?_) rfl (by kernel_rfl) (by kernel_rfl) (by kernel_rfl) (fun _ _ _ h => h) (Or.inl ⟨by rfl, ?_⟩) ?_
        rotate_left 1
        · first | (intro w; go_simp; done) | (intro w; go_simp; with_reducible rfl)
        try go_simp
        refine wpAny_take (i := 26) (v := ?_) rfl (by kernel_rfl) (by kernel_rfl) (by kernel_rfl) (fun _ _ _ h => h) (Or.inl ⟨by rfl, ?_⟩) ?_
        rotate_left 1
        · first | (intro w; go_simp; done) | (intro w; go_simp; with_reducible rfl)
        try go_simp
        refine wpAny_done (by kernel_rfl) ?_ _
        have HB4 : Hid (Below w.heap.size w w4) := HB1.out.trans ((HBW.out.drew.trans (hb.mono HBW.out.size)).mono HB1.out.size)
        have HBx : Hid (Below w1.heap.size w1 w4) := HBW.out.drew.trans (hb.mono HBW.out.size)
        clear hb
        go_wp2_with fail
        go_roundw
        case rel => exact ⟨0 + 1, by go_num, by rw [HSUM.out], by omega, HY, HBx⟩
        case measure => simp [intOf]; omega
      · obtain ⟨J, hJ⟩ : ∃ J : Nat, k = J + 1 := ⟨k - 1, by omega⟩
        have hJi : (k : Int) - 1 = (J : Int) := by omega
        have hJw : IntKind.i64.wrap (J : Int) = (J : Int) := IntWalk.i64_in _ (by omega)
        have hJ0 : (0 : Int) ≤ (J : Int) := by omega
        have hJ1 : (J : Int) < (n : Int) := by omega
        obtain ⟨q0, q1, q2⟩ := HQ.out hk0
        rw [show k - 1 = J by omega] at q0 q1 q2
        have HBWw : Hid (Below w.heap.size w W) := HB1.out.trans (HBW.out.mono HB1.out.size)
        have r0 := (HBWw.out.cell (p := ⟨g, _, none⟩) hg).trans q0
        have r1 := (HBWw.out.cell (p := ⟨g, _, none⟩) hg).trans q1
        have hJn : J < n := by omega
        have t0 : decide (0 < k) = true := by simpa using hk0
        have t1 : decide ((0 : Int) < (k : Int)) = true := by simpa using hk0
        have HOK2 : Hid (ok = lessP q.a q.s x0 x1) := by rw [Hid, HOK.out]; simp; omega
        have HC := spec_less q.a q.s x0 x1
        generalize lessP q.a q.s x0 x1 = l at *
        generalize q.a = y0 at *
        generalize q.s = y1 at *
        have HC : Hid (∀ W, Calls Tryz.prog 45 #[.agg #[.string y0, .string y1], .agg #[.string x0, .string x1]] W fun e w' => e = .returned (.bool l) ∧ Below W.heap.size W w') := HC
        have hgl : g < W.heap.size := Nat.lt_of_lt_of_le hg HBWw.out.size
        clear q0 q1 q2 HQ HOK hJ
        go_region_held3 (fun V => V.cell? ⟨g, o + J * 3, none⟩ = some (.string y0) ∧ V.cell? ⟨g, o + J * 3 + 1, none⟩ = some (.string y1) ∧ V.cell? ⟨Q, 0, none⟩ = some (.string x0) ∧ V.cell? ⟨Q, 1, none⟩ = some (.string x1) ∧ V.cell? ⟨Q, 2, none⟩ = some (.int .i64 x2) ∧ V.cell? ⟨w.heap.size, 0, none⟩ = some (.slice (some ⟨g, o, none⟩) n cap)) (go_keep) (first | (go_at_call 43; refine (H1.out _).mono ?_; rintro e w3 ⟨rfl, hb⟩; have HX3 : Hid (Below W.heap.size W w3) := (Below.refl _ _).drew.trans hb; have w3k0 : w3.cell? ⟨g, o + J * 3, none⟩ = some (.string y0) := (HX3.out.cell (p := ⟨g, o + J * 3, none⟩) hgl).trans r0; have w3k1 : w3.cell? ⟨g, o + J * 3 + 1, none⟩ = some (.string y1) := (HX3.out.cell (p := ⟨g, o + J * 3 + 1, none⟩) hgl).trans r1; have w3k2 : w3.cell? ⟨Q, 0, none⟩ = some (.string x0) := (HX3.out.cell (p := ⟨Q, 0, none⟩) hQl).trans e0; have w3k3 : w3.cell? ⟨Q, 1, none⟩ = some (.string x1) := (HX3.out.cell (p := ⟨Q, 1, none⟩) hQl).trans e1; have w3k4 : w3.cell? ⟨Q, 2, none⟩ = some (.int .i64 x2) := (HX3.out.cell (p := ⟨Q, 2, none⟩) hQl).trans e2; have w3k5 : w3.cell? ⟨w.heap.size, 0, none⟩ = some (.slice (some ⟨g, o, none⟩) n cap) := (HX3.out.cell (p := ⟨w.heap.size, 0, none⟩) hBl).trans eB) | (go_at_call 44; refine (HM.out _).mono ?_; rintro e w4 ⟨rfl, rfl⟩) | (go_at_call 45; refine (HC.out _).mono ?_; rintro e w5 ⟨rfl, hb5⟩; have HX5 : Hid (Below W.heap.size W w5) := HX3.out.trans (hb5.mono HX3.out.size); have w5k0 : w5.cell? ⟨g, o + J * 3, none⟩ = some (.string y0) := (HX5.out.cell (p := ⟨g, o + J * 3, none⟩) hgl).trans r0; have w5k1 : w5.cell? ⟨g, o + J * 3 + 1, none⟩ = some (.string y1) := (HX5.out.cell (p := ⟨g, o + J * 3 + 1, none⟩) hgl).trans r1; have w5k2 : w5.cell? ⟨Q, 0, none⟩ = some (.string x0) := (HX5.out.cell (p := ⟨Q, 0, none⟩) hQl).trans e0; have w5k3 : w5.cell? ⟨Q, 1, none⟩ = some (.string x1) := (HX5.out.cell (p := ⟨Q, 1, none⟩) hQl).trans e1; have w5k4 : w5.cell? ⟨Q, 2, none⟩ = some (.int .i64 x2) := (HX5.out.cell (p := ⟨Q, 2, none⟩) hQl).trans e2; have w5k5 : w5.cell? ⟨w.heap.size, 0, none⟩ = some (.slice (some ⟨g, o, none⟩) n cap) := (HX5.out.cell (p := ⟨w.heap.size, 0, none⟩) hBl).trans eB))
        have HB5 : Hid (Below w.heap.size w w5) := HBWw.out.trans (HX5.out.mono HBWw.out.size)
        have HB6 : Hid (Below w1.heap.size w1 w5) := HBW.out.trans (HX5.out.mono HBW.out.size)
        clear hb hb5 r0 r1 e0 e1 e2 eB w3k0 w3k1 w3k2 w3k3 w3k4 w3k5 w5k0 w5k1 w5k2 w5k3 w5k5
        cases l
        · have HX : Hid (bookB n m L I = false) := HNO.out HOK2.out
          go_wp2_with fail
          go_ret
          exact ⟨ret_bool HX.out.symm, HB5.out⟩
        · have HY : Hid (∀ j, j < k + 1 → okLine L j = true) := HS'.out HOK2.out
          go_wp2_with fail
          go_roundw
          case rel => exact ⟨k + 1, by go_num, by rw [HSUM.out], by omega, HY, HB6⟩
          case measure => simp [intOf]; omega
    · have p0 : decide (k < n) = false := by simpa using hkn
      have p1 : decide ((k : Int) < (n : Int)) = false := by simpa using hkn
      obtain rfl : k = n := by omega
      have HX : Hid (bookB k m L I = (sumL L k == 0)) := by rw [Hid, HBB.out, HID.out, linesB_yes hl1 HS.out]; simp
      go_wp2_with fail
      go_ret
      exact ⟨ret_bool HX.out.symm, HB.out⟩
end Go.Proofs.YtepkmbfedblhdaaGreatDoor
