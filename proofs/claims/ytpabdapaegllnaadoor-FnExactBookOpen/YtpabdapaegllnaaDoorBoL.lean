/- The law of BookOpen. -/
import Derived.Test.YtpabdapaegllnaaDoorBkU
import Derived.Test.YtpabdapaegllnaaDoorBkV3
import Derived.Test.YtpabdapaegllnaaDoorBkV4
import Derived.Test.YtpabdapaegllnaaDoorBbL
namespace Go.Proofs.YtpabdapaegllnaaDoor
open Go.RowKit
open Go.Proofs.YtpabdapaegllnaaDoor.Draw

theorem openB_small (n m : Nat) (L : Nat → Ln) (I : Nat → Tx) (x y : ByteArray) (k : Nat) : (openB n m L I x y k).N ≤ 1048576 ∧ (openB n m L I x y k).K ≤ 1048576 := by
  cases hb : (bookB n m L I && (nameB x && nameB y)) with
  | false => rw [openB_no hb]; exact ⟨by simp, by simp⟩
  | true =>
    cases hf : findB L x y n with
    | some i => rw [openB_7 hb hf]; exact ⟨by simp, by simp⟩
    | none =>
      by_cases h60 : 60 ≤ n
      · rw [openB_16 hb hf h60]; exact ⟨by simp, by simp⟩
      · rw [openB_ok hb hf (by omega)]
        have hbk : bookB n m L I = true := by simp only [Bool.and_eq_true] at hb; exact hb.1
        unfold bookB at hbk
        simp only [Bool.and_eq_true] at hbk
        have hm := ((idsB_iff m I).1 hbk.1.2).1
        exact ⟨by show n + 1 ≤ _; omega, by show m ≤ _; omega⟩
theorem D4.newd (w : World) (v0 v1 v2 v3 : Value) (t : TypeId) : D4 (w.alloc (.cells #[v0, v1, v2, v3] t)).drew w.heap.size v0 v1 v2 v3 := ⟨by simp, by simp, by simp, by simp, fun j => by show (w.alloc _).frozen? _ = false; exact fnew' rfl j, by show w.heap.size < (w.alloc _).heap.size; simp⟩
theorem Bc.kb {W W' : World} {b : Nat} {v u : Value} {ra rb : Option Nat} (h : Bc W b v u) (hk : Kb W W' ra rb) (h1 : some b ≠ ra) (h2 : some b ≠ rb) : Bc W' b v u := ⟨(hk.cell h.lt h1 h2).trans h.c0, (hk.cell h.lt h1 h2).trans h.c1, Nat.lt_of_lt_of_le h.lt hk.size⟩
theorem Bc.gr {W W' : World} {b : Nat} {v u : Value} {q : Nat} (h : Bc W b v u) (hg : W.grownBy W' (some q)) (hne : b ≠ q) : Bc W' b v u := by
  have hb := hg.block b h.lt (by simpa using hne)
  exact ⟨(World.cell?_of_block (a := ⟨b, 0, none⟩) hb).trans h.c0, (World.cell?_of_block (a := ⟨b, 1, none⟩) hb).trans h.c1, Nat.lt_of_lt_of_le h.lt hg.size⟩
theorem D4.gr {W W' : World} {b q : Nat} {v0 v1 v2 v3 : Value} (h : D4 W b v0 v1 v2 v3) (hg : W.grownBy W' (some q)) (hne : b ≠ q) : D4 W' b v0 v1 v2 v3 := by
  have hb := hg.block b h.lt (by simpa using hne)
  exact ⟨(World.cell?_of_block (a := ⟨b, 0, none⟩) hb).trans h.c0, (World.cell?_of_block (a := ⟨b, 1, none⟩) hb).trans h.c1, (World.cell?_of_block (a := ⟨b, 2, none⟩) hb).trans h.c2, (World.cell?_of_block (a := ⟨b, 3, none⟩) hb).trans h.c3, fun j => (World.frozen?_of_block (a := ⟨b, j, none⟩) hb).trans (h.fz j), Nat.lt_of_lt_of_le h.lt hg.size⟩
theorem OwnR.gr {W W' : World} {a : Option Addr} {n c q : Nat} {F : Nat → Value} (h : OwnR W a n c F) (hg : W.grownBy W' (some q)) (hne : ∀ k, a.map Addr.block = some k → k ≠ q) : OwnR W' a n c F := h.grown hg (fun k e => by simpa using hne k e)
theorem below_gr {B q : Nat} {w W W' : World} (h : Below B w W) (hg : W.grownBy W' (some q)) (hs : B ≤ W.heap.size) (hq : B ≤ q) : Below B w W' := h.grown hg hs (fun k e => by simp at e; omega)
set_option maxRecDepth 100000 in
set_option maxHeartbeats 16000000 in
theorem law_bookOpen (a b : Option Addr) (n m cap cap' : Nat) (L : Nat → Ln) (I : Nat → Tx) (hn : n ≤ maxLen) (hm : m ≤ maxLen) (hf : ∀ i, i < n → (L i).fits) (hfi : ∀ i, i < m → (I i).fits) (x y : ByteArray) (hx : x.size ≤ maxLen) (hy : y.size ≤ maxLen) (w : World) (hL : Lay w) (h : LinesAt w a n L) (h' : TextsAt w b m I) :
    Calls Tryd.prog 5 #[.agg #[.slice a n cap, .slice b m cap'], .agg #[.string x, .string y]] w fun e w' => e = .returned (.bool true) ∧ Below w.heap.size w w' := by
  have HL : Hid (LinesAt w a n L) := h
  have HI0 : Hid (TextsAt w b m I) := h'
  have HF : Hid ((∀ i, i < n → (L i).fits) ∧ ∀ i, i < m → (I i).fits) := ⟨hf, hfi⟩
  have HN : Hid (n ≤ maxLen ∧ m ≤ maxLen) := ⟨hn, hm⟩
  have HXY : Hid (x.size ≤ maxLen ∧ y.size ≤ maxLen) := ⟨hx, hy⟩
  have HLy : Hid (Lay w) := hL
  have T0 := two_now w #[.slice a n cap, .slice b m cap'] #[.string x, .string y] 49 50
  have HB0 : Hid (Below w.heap.size w ((w.alloc (.cells #[.slice a n cap, .slice b m cap'] 49)).alloc (.cells #[.string x, .string y] 50))) := T0.bel
  have HP0 : Hid (Bc ((w.alloc (.cells #[.slice a n cap, .slice b m cap'] 49)).alloc (.cells #[.string x, .string y] 50)) w.heap.size (.slice a n cap) (.slice b m cap')) := (Bc.new _ _ _ _).below ((Below.refl _ _).alloc (Nat.le_refl _) _)
  have HQ0 : Hid (Bc ((w.alloc (.cells #[.slice a n cap, .slice b m cap'] 49)).alloc (.cells #[.string x, .string y] 50)) (w.heap.size + 1) (.string x) (.string y)) := by
    have t1 := Bc.new (w.alloc (.cells #[.slice a n cap, .slice b m cap'] 49)) (.string x) (.string y) 50
    have t2 : Bc ((w.alloc (.cells #[.slice a n cap, .slice b m cap'] 49)).alloc (.cells #[.string x, .string y] 50)) (w.heap.size + 1) (.string x) (.string y) := by simpa using t1
    exact t2
  obtain ⟨kp, hkp⟩ : ∃ k, linesB n L = true → IsPlace L x y n k := by
    by_cases hl : linesB n L = true
    · obtain ⟨k, hk⟩ := place_is ((linesB_iff n L).1 hl).2 x y
      exact ⟨k, fun _ => hk⟩
    · exact ⟨0, fun h => absurd h hl⟩
  have hsmall := openB_small n m L I x y kp
  have HS : Hid (∀ g k W, n ≤ 1048576 → m ≤ 1048576 → LinesAt W (some ⟨g, 0, none⟩) n L → TextsAt W (some ⟨k, 0, none⟩) m I → Calls Tryd.prog 14 #[.agg #[.slice (some ⟨g, 0, none⟩) n n, .slice (some ⟨k, 0, none⟩) m m], .agg #[.string x, .string y]] W (BkOut W (openB n m L I x y kp).N (openB n m L I x y kp).K (openB n m L I x y kp).L I 0 (openB n m L I x y kp).cd)) := fun g k W h1 h2 h3 h4 => spec_bookOpen g k n m L I h1 h2 HF.out.1 HF.out.2 x y HXY.out.1 HXY.out.2 kp hkp W h3 h4
  have HI : Hid (∀ g k W, n ≤ 1048576 → m ≤ 1048576 → Lay W → LinesAt W (some ⟨g, 0, none⟩) n L → TextsAt W (some ⟨k, 0, none⟩) m I → Calls Tryd.prog 15 #[.agg #[.slice (some ⟨g, 0, none⟩) n n, .slice (some ⟨k, 0, none⟩) m m], .agg #[.string x, .string y]] W (BkOut W (openB n m L I x y kp).N (openB n m L I x y kp).K (openB n m L I x y kp).L I 0 (openB n m L I x y kp).cd)) := fun g k W h1 h2 h5 h3 h4 => impl_bookOpen g 0 k 0 n m n m L I h1 h2 HF.out.1 HF.out.2 x y HXY.out.1 HXY.out.2 kp hkp W h5 h3 h4
  generalize openB n m L I x y kp = Z at *
  obtain ⟨N, K, M, cd⟩ := Z
  simp only at HS HI hsmall
  obtain ⟨hN, hK⟩ := hsmall
  unfold BkOut at HS HI
  clear h h' hf hfi hn hm hkp hx hy hL T0
  go_enter Tryd.func5, Tryd.ntmps5
  go_wp2_with fail
  refine (sz_book a b n m cap cap' L I HN.out.1 HN.out.2 HF.out.1 HF.out.2 1048576 (by omega) _ (HL.out.below HB0.out) (HI0.out.below HB0.out)).mono ?_
  rintro e w1 ⟨he, hb1⟩
  have HB1 : Hid (Below w.heap.size w w1) := HB0.out.trans (hb1.mono HB0.out.size)
  have HP1 : Hid (Bc w1 w.heap.size (.slice a n cap) (.slice b m cap')) := HP0.out.below hb1
  have HQ1 : Hid (Bc w1 (w.heap.size + 1) (.string x) (.string y)) := HQ0.out.below hb1
  obtain ⟨q0, q1, qlt⟩ := HQ1.out
  clear hb1 HP0 HQ0 HB0
  rcases he with rfl | ⟨r, rfl, hr, hnl, hml, _, _⟩
  · have q' : decide ((-1 : Int) < 0) = true := rfl
    go_wp2_with fail
    go_ret
    exact ⟨rfl, HB1.out⟩
  have q' : decide ((r : Int) < 0) = false := by simp
  go_wp2_with fail
  refine (sz_spot x y HXY.out.1 HXY.out.2 r (by omega) _).mono ?_
  rintro e w2 ⟨he, hb2⟩
  have HB2 : Hid (Below w.heap.size w w2) := HB1.out.trans (hb2.mono HB1.out.size)
  have HP2 : Hid (Bc w2 w.heap.size (.slice a n cap) (.slice b m cap')) := HP1.out.below hb2
  have HQ2 : Hid (Bc w2 (w.heap.size + 1) (.string x) (.string y)) := HQ1.out.below hb2
  clear hb2 HP1 HQ1 q0 q1 qlt
  rcases he with ⟨rfl, _⟩ | ⟨rfl, hle⟩
  · have q' : decide ((-1 : Int) < 0) = true := rfl
    go_wp2_with fail
    go_ret
    exact ⟨rfl, HB2.out⟩
  obtain ⟨t, ht⟩ : ∃ t, t = r - (x.size + y.size) := ⟨_, rfl⟩
  rw [← ht]
  have q'' : decide ((t : Int) < 0) = false := by simp
  clear ht hle
  have P2 := HP2.out
  have Q2 := HQ2.out
  have lt2 := P2.lt
  have mt2 := Q2.lt
  have ne20 : w2.heap.size ≠ w.heap.size := by omega
  have ne21 : w2.heap.size ≠ w.heap.size + 1 := by omega
  obtain ⟨p0, p1, plt⟩ := HP2.out
  obtain ⟨q0, q1, qlt⟩ := HQ2.out
  go_upto_region 8 with fail
  go_cut [6] (fun r wx => ∃ (R : Nat) (sa : Option Addr) (sc : Nat) (sb : Option Addr) (sd : Nat), r = .pointer (some ⟨R, 0, none⟩) ∧ Hid (D4 wx R (.slice sa N sc) (.slice sb K sd) (.int .i64 0) (.int .i64 cd) ∧ (OwnR wx sa N 3 (lineF M) ∧ OwnR wx sb K 1 (textF I)) ∧ ((∀ k, sa.map Addr.block = some k → w.heap.size + 2 ≤ k ∧ k < wx.heap.size) ∧ (∀ k, sb.map Addr.block = some k → w.heap.size + 2 ≤ k ∧ k < wx.heap.size)) ∧ Bc wx w.heap.size (.slice a n cap) (.slice b m cap') ∧ Bc wx (w.heap.size + 1) (.string x) (.string y) ∧ Below w.heap.size w wx))
  case first =>
    go_region_held3 (fun W => W.cell? ⟨w.heap.size, 0, none⟩ = some (.slice a n cap) ∧ W.cell? ⟨w.heap.size, 1, none⟩ = some (.slice b m cap') ∧ W.cell? ⟨w.heap.size + 1, 0, none⟩ = some (.string x) ∧ W.cell? ⟨w.heap.size + 1, 1, none⟩ = some (.string y)) (go_keep) (first | (go_at_call 19; refine (to_book a b n m cap cap' L I hnl hml _ (HL.out.below (by first | exact HB2.out.drew | exact HB2.out | exact (HB2.out.alloc HB2.out.size _).drew | exact HB2.out.alloc HB2.out.size _)) (HI0.out.below (by first | exact HB2.out.drew | exact HB2.out | exact (HB2.out.alloc HB2.out.size _).drew | exact HB2.out.alloc HB2.out.size _))).mono ?_; rintro e w3 ⟨g, k, rfl, _, _, hO, hO', hb3⟩; have hx3 : Below w2.heap.size w2 w3 := (by first | exact hb3 | exact (Below.refl _ w2).drew.trans hb3 | exact ((Below.refl _ w2).alloc (Nat.le_refl _) _).trans (hb3.mono (by simp)) | exact (((Below.refl _ w2).alloc (Nat.le_refl _) _).drew).trans (hb3.mono (by first | (simp; done) | (show w2.heap.size ≤ (w2.alloc _).heap.size; simp)))); have P3 := P2.below hx3; have p30 := P3.c0; have p31 := P3.c1; have Q3 := Q2.below hx3; have q30 := Q3.c0; have q31 := Q3.c1; (first | (have z3 : D4 w3 _ (.slice none 0 0) (.slice none 0 0) (.int .i64 0) (.int .i64 0) := znone.below hx3) | (have z3 : D4 w3 w2.heap.size (.slice none 0 0) (.slice none 0 0) (.int .i64 0) (.int .i64 0) := (D4.new w2 _ _ _ _ _).below hb3) | (have z3 : D4 w3 w2.heap.size (.slice none 0 0) (.slice none 0 0) (.int .i64 0) (.int .i64 0) := (D4.newd w2 _ _ _ _ _).below hb3) | skip); (try (have zz3 := z3; obtain ⟨zc30, zc31, zc32, zc33, zf3, zl3⟩ := zz3)); have lt3 := P3.lt; have mt3 := Q3.lt; have ne30 : w3.heap.size ≠ w.heap.size := (by omega); have ne31 : w3.heap.size ≠ w.heap.size + 1 := (by omega); have HO3 : Hid (Own w3 g (n * 3) (lineF L) ∧ Own w3 k m (textF I)) := ⟨hO, hO'⟩; have HBs3 : Hid (Below w.heap.size w w3) := HB2.out.trans (hx3.mono HB2.out.size); clear hO hO') | (go_at_call 20; refine (to_spot x y _).mono ?_; rintro e w4 ⟨rfl, hb4⟩; have hx4 : Below w3.heap.size w3 w4 := (by first | exact hb4 | exact (Below.refl _ w3).drew.trans hb4 | exact ((Below.refl _ w3).alloc (Nat.le_refl _) _).trans (hb4.mono (by simp)) | exact (((Below.refl _ w3).alloc (Nat.le_refl _) _).drew).trans (hb4.mono (by first | (simp; done) | (show w3.heap.size ≤ (w3.alloc _).heap.size; simp)))); have P4 := P3.below hx4; have p40 := P4.c0; have p41 := P4.c1; have Q4 := Q3.below hx4; have q40 := Q4.c0; have q41 := Q4.c1; (first | (have z4 : D4 w4 _ (.slice none 0 0) (.slice none 0 0) (.int .i64 0) (.int .i64 0) := z3.below hx4) | (have z4 : D4 w4 w3.heap.size (.slice none 0 0) (.slice none 0 0) (.int .i64 0) (.int .i64 0) := (D4.new w3 _ _ _ _ _).below hb4) | (have z4 : D4 w4 w3.heap.size (.slice none 0 0) (.slice none 0 0) (.int .i64 0) (.int .i64 0) := (D4.newd w3 _ _ _ _ _).below hb4) | skip); (try (have zz4 := z4; obtain ⟨zc40, zc41, zc42, zc43, zf4, zl4⟩ := zz4)); have lt4 := P4.lt; have mt4 := Q4.lt; have ne40 : w4.heap.size ≠ w.heap.size := (by omega); have ne41 : w4.heap.size ≠ w.heap.size + 1 := (by omega); have HO4 : Hid (Own w4 g (n * 3) (lineF L) ∧ Own w4 k m (textF I)) := ⟨HO3.out.1.below hx4, HO3.out.2.below hx4⟩; have HBs4 : Hid (Below w.heap.size w w4) := HBs3.out.trans (hx4.mono HBs3.out.size)) | (go_at_call 14; refine (HS.out g k _ hnl hml (by first | exact HO4.out.1.lines | exact (HO4.out.1.below ((Below.refl _ _).alloc (Nat.le_refl _) _)).lines) (by first | exact HO4.out.2.texts | exact (HO4.out.2.below ((Below.refl _ _).alloc (Nat.le_refl _) _)).texts)).mono ?_; rintro e w5 ⟨sa, sc, sb, sd, rfl, oa, ob, al, bl, abn, hb5⟩; have hx5 : Below w4.heap.size w4 w5 := (by first | exact hb5 | exact (Below.refl _ w4).drew.trans hb5 | exact ((Below.refl _ w4).alloc (Nat.le_refl _) _).trans (hb5.mono (by simp)) | exact (((Below.refl _ w4).alloc (Nat.le_refl _) _).drew).trans (hb5.mono (by first | (simp; done) | (show w4.heap.size ≤ (w4.alloc _).heap.size; simp)))); have P5 := P4.below hx5; have p50 := P5.c0; have p51 := P5.c1; have Q5 := Q4.below hx5; have q50 := Q5.c0; have q51 := Q5.c1; (first | (have z5 : D4 w5 _ (.slice none 0 0) (.slice none 0 0) (.int .i64 0) (.int .i64 0) := z4.below hx5) | (have z5 : D4 w5 w4.heap.size (.slice none 0 0) (.slice none 0 0) (.int .i64 0) (.int .i64 0) := (D4.new w4 _ _ _ _ _).below hb5) | (have z5 : D4 w5 w4.heap.size (.slice none 0 0) (.slice none 0 0) (.int .i64 0) (.int .i64 0) := (D4.newd w4 _ _ _ _ _).below hb5) | skip); (try (have zz5 := z5; obtain ⟨zc50, zc51, zc52, zc53, zf5, zl5⟩ := zz5)); have lt5 := P5.lt; have mt5 := Q5.lt; have ne50 : w5.heap.size ≠ w.heap.size := (by omega); have ne51 : w5.heap.size ≠ w.heap.size + 1 := (by omega); (first | (have la : ∀ j, sa.map Addr.block = some j → w4.heap.size + 1 ≤ j := fun j e => by have := (al j e).1; simpa using this) | (have la : ∀ j, sa.map Addr.block = some j → w4.heap.size ≤ j := fun j e => (al j e).1)); (first | (have lb : ∀ j, sb.map Addr.block = some j → w4.heap.size + 1 ≤ j := fun j e => by have := (bl j e).1; simpa using this) | (have lb : ∀ j, sb.map Addr.block = some j → w4.heap.size ≤ j := fun j e => (bl j e).1))))
    all_goals have HB5 : Below w.heap.size w w5 := HBs4.out.trans (hx5.mono HBs4.out.size)
    all_goals go_wp2_with fail
    all_goals go_meet
    all_goals have ala : ∀ k, sa.map Addr.block = some k → w.heap.size + 2 ≤ k ∧ k < w5.heap.size := fun k e => ⟨by have := la k e; omega, (al k e).2⟩
    all_goals have alb : ∀ k, sb.map Addr.block = some k → w.heap.size + 2 ≤ k ∧ k < w5.heap.size := fun k e => ⟨by have := lb k e; omega, (bl k e).2⟩
    all_goals first
      | exact ⟨_, sa, sc, sb, sd, rfl, D4.new _ _ _ _ _ _, ⟨oa.below ((Below.refl _ _).alloc (Nat.le_refl _) _), ob.below ((Below.refl _ _).alloc (Nat.le_refl _) _)⟩, ⟨fun k e => ⟨(ala k e).1, by have := (ala k e).2; simp; omega⟩, fun k e => ⟨(alb k e).1, by have := (alb k e).2; simp; omega⟩⟩, P5.below ((Below.refl _ _).alloc (Nat.le_refl _) _), Q5.below ((Below.refl _ _).alloc (Nat.le_refl _) _), HB5.alloc HB5.size _⟩
      | exact ⟨_, sa, sc, sb, sd, rfl, z5.put _ _ _ _, ⟨oa.gr (set4_grown _ _ _ _ _ _) (fun j e => by have := la j e; omega), ob.gr (set4_grown _ _ _ _ _ _) (fun j e => by have := lb j e; omega)⟩, ⟨fun k e => ⟨(ala k e).1, by have := (ala k e).2; simp; omega⟩, fun k e => ⟨(alb k e).1, by have := (alb k e).2; simp; omega⟩⟩, P5.gr (set4_grown _ _ _ _ _ _) (by omega), Q5.gr (set4_grown _ _ _ _ _ _) (by omega), below_gr HB5 (set4_grown _ _ _ _ _ _) HB5.size (by omega)⟩
  case rest =>
    obtain ⟨R, sa, sc, sb, sd, rfl, H6⟩ := hcut
    have HR6 : Hid (D4 wc R (.slice sa N sc) (.slice sb K sd) (.int .i64 0) (.int .i64 cd)) := H6.out.1
    have HS6 : Hid (OwnR wc sa N 3 (lineF M) ∧ OwnR wc sb K 1 (textF I)) := H6.out.2.1
    have HT6 : Hid ((∀ k, sa.map Addr.block = some k → w.heap.size + 2 ≤ k ∧ k < wc.heap.size) ∧ (∀ k, sb.map Addr.block = some k → w.heap.size + 2 ≤ k ∧ k < wc.heap.size)) := H6.out.2.2.1
    have HP6 : Hid (Bc wc w.heap.size (.slice a n cap) (.slice b m cap')) := H6.out.2.2.2.1
    have HQ6 : Hid (Bc wc (w.heap.size + 1) (.string x) (.string y)) := H6.out.2.2.2.2.1
    have HB6 : Hid (Below w.heap.size w wc) := H6.out.2.2.2.2.2
    clear H6 P2 Q2 lt2 mt2 ne20 ne21 p0 p1 plt q0 q1 qlt
    obtain ⟨p0, p1, plt⟩ := HP6.out
    go_wp2_with fail
    refine (to_book a b n m cap cap' L I hnl hml _ (HL.out.below HB6.out) (HI0.out.below HB6.out)).mono ?_
    rintro e w6 ⟨xg, xk, rfl, hxg, hxk, hO, hO', hb6⟩
    have hal : Below w6.heap.size w6 (w6.alloc (.cells #[.slice (some ⟨xg, 0, none⟩) n n, .slice (some ⟨xk, 0, none⟩) m m] 26)) := (Below.refl _ _).alloc (Nat.le_refl _) _
    have hB7 : Below w.heap.size w (w6.alloc (.cells #[.slice (some ⟨xg, 0, none⟩) n n, .slice (some ⟨xk, 0, none⟩) m m] 26)) := (HB6.out.trans (hb6.mono HB6.out.size)).trans (hal.mono (Nat.le_trans HB6.out.size hb6.size))
    have hR7 := (HR6.out.below hb6).below hal
    have hS7 : OwnR (w6.alloc (.cells #[.slice (some ⟨xg, 0, none⟩) n n, .slice (some ⟨xk, 0, none⟩) m m] 26)) sa N 3 (lineF M) ∧ OwnR (w6.alloc (.cells #[.slice (some ⟨xg, 0, none⟩) n n, .slice (some ⟨xk, 0, none⟩) m m] 26)) sb K 1 (textF I) := ⟨(HS6.out.1.below hb6).below hal, (HS6.out.2.below hb6).below hal⟩
    have hP7 := (HP6.out.below hb6).below hal
    have hQ7 := (HQ6.out.below hb6).below hal
    have hX7 := Bc.new w6 (.slice (some ⟨xg, 0, none⟩) n n) (.slice (some ⟨xk, 0, none⟩) m m) 26
    have hO7 : Own (w6.alloc (.cells #[.slice (some ⟨xg, 0, none⟩) n n, .slice (some ⟨xk, 0, none⟩) m m] 26)) xg (n * 3) (lineF L) ∧ Own (w6.alloc (.cells #[.slice (some ⟨xg, 0, none⟩) n n, .slice (some ⟨xk, 0, none⟩) m m] 26)) xk m (textF I) := ⟨hO.below hal, hO'.below hal⟩
    have HSB : Hid ((∀ k, sa.map Addr.block = some k → w.heap.size + 2 ≤ k ∧ k < xg) ∧ ∀ k, sb.map Addr.block = some k → w.heap.size + 2 ≤ k ∧ k < xg) := ⟨fun k e => by have := HT6.out.1 k e; omega, fun k e => by have := HT6.out.2 k e; omega⟩
    have hRx : R < xg := by have := HR6.out.lt; omega
    have hwx : w.heap.size + 2 ≤ xg := by have := HQ6.out.lt; omega
    have hxX : xk < w6.heap.size := hO'.1
    clear hb6 hal hO hO' HR6 HS6 HT6 HP6 HQ6 HB6 p0 p1 plt hxg
    go_upto_region 10 with fail
    obtain ⟨w7, hw7⟩ : ∃ W, W = (w6.alloc (.cells #[.slice (some ⟨xg, 0, none⟩) n n, .slice (some ⟨xk, 0, none⟩) m m] 26)) := ⟨_, rfl⟩
    obtain ⟨X, hX⟩ : ∃ X, X = w6.heap.size := ⟨_, rfl⟩
    rw [← hw7] at hB7 hR7 hS7 hP7 hQ7 hX7 hO7 ⊢
    rw [← hX] at hX7 hxX ⊢
    clear hw7 hX
    have HB7 : Hid (Below w.heap.size w w7) := hB7
    have HO7 : Hid (Own w7 xg (n * 3) (lineF L) ∧ Own w7 xk m (textF I)) := hO7
    have HS7 : Hid (OwnR w7 sa N 3 (lineF M) ∧ OwnR w7 sb K 1 (textF I)) := hS7
    have Y7 := hX7
    have P7 := hP7
    have Q7 := hQ7
    have T7 := hR7
    have y70 := Y7.c0
    have y71 := Y7.c1
    have q70 := Q7.c0
    have q71 := Q7.c1
    have lt7 := P7.lt
    have mt7 := Q7.lt
    have yt7 := Y7.lt
    have ne70 : w7.heap.size ≠ w.heap.size := by omega
    have ne71 : w7.heap.size ≠ w.heap.size + 1 := by omega
    have ne72 : w7.heap.size ≠ X := by omega
    clear hB7 hR7 hS7 hP7 hQ7 hX7 hO7
    go_cut [8] (fun r wx => ∃ (G : Nat) (ga : Option Addr) (gc : Nat) (gb : Option Addr) (gd : Nat), r = .pointer (some ⟨G, 0, none⟩) ∧ Hid (D4 wx G (.slice ga N gc) (.slice gb K gd) (.int .i64 0) (.int .i64 cd) ∧ (OwnR wx ga N 3 (lineF M) ∧ OwnR wx gb K 1 (textF I)) ∧ ((∀ k, ga.map Addr.block = some k → w7.heap.size ≤ k ∧ k < wx.heap.size) ∧ (∀ k, gb.map Addr.block = some k → w7.heap.size ≤ k ∧ k < wx.heap.size)) ∧ ((∀ k, ga.map Addr.block = some k → k ≠ G) ∧ (∀ k, gb.map Addr.block = some k → k ≠ G) ∧ (∀ k, ga.map Addr.block = some k → gb.map Addr.block = some k → False) ∧ w7.heap.size ≤ G) ∧ D4 wx R (.slice sa N sc) (.slice sb K sd) (.int .i64 0) (.int .i64 cd) ∧ (OwnR wx sa N 3 (lineF M) ∧ OwnR wx sb K 1 (textF I)) ∧ Bc wx w.heap.size (.slice a n cap) (.slice b m cap') ∧ Bc wx (w.heap.size + 1) (.string x) (.string y) ∧ Bc wx X (.slice (some ⟨xg, 0, none⟩) n n) (.slice (some ⟨xk, 0, none⟩) m m) ∧ (Own wx xg (n * 3) (lineF L) ∧ Own wx xk m (textF I)) ∧ Below w.heap.size w wx))
    case first =>
      go_region_held3 (fun W => W.cell? ⟨X, 0, none⟩ = some (.slice (some ⟨xg, 0, none⟩) n n) ∧ W.cell? ⟨X, 1, none⟩ = some (.slice (some ⟨xk, 0, none⟩) m m) ∧ W.cell? ⟨w.heap.size + 1, 0, none⟩ = some (.string x) ∧ W.cell? ⟨w.heap.size + 1, 1, none⟩ = some (.string y)) (go_keep) (first | (go_at_call 20; refine (to_spot x y _).mono ?_; rintro e w8 ⟨rfl, hb8⟩; have hx8 : Below w7.heap.size w7 w8 := (by first | exact hb8 | exact (Below.refl _ w7).drew.trans hb8 | exact ((Below.refl _ w7).alloc (Nat.le_refl _) _).trans (hb8.mono (by simp)) | exact (((Below.refl _ w7).alloc (Nat.le_refl _) _).drew).trans (hb8.mono (by first | (simp; done) | (show w7.heap.size ≤ (w7.alloc _).heap.size; simp)))); have P8 := P7.below hx8; have p80 := P8.c0; have p81 := P8.c1; have Q8 := Q7.below hx8; have q80 := Q8.c0; have q81 := Q8.c1; have Y8 := Y7.below hx8; have y80 := Y8.c0; have y81 := Y8.c1; have T8 := T7.below hx8; have t80 := T8.c0; have t81 := T8.c1; (first | (have z8 : D4 w8 _ (.slice none 0 0) (.slice none 0 0) (.int .i64 0) (.int .i64 0) := znone.below hx8) | (have z8 : D4 w8 w7.heap.size (.slice none 0 0) (.slice none 0 0) (.int .i64 0) (.int .i64 0) := (D4.new w7 _ _ _ _ _).below hb8) | (have z8 : D4 w8 w7.heap.size (.slice none 0 0) (.slice none 0 0) (.int .i64 0) (.int .i64 0) := (D4.newd w7 _ _ _ _ _).below hb8) | skip); (try (have zz8 := z8; obtain ⟨zc80, zc81, zc82, zc83, zf8, zl8⟩ := zz8)); have lt8 := P8.lt; have mt8 := Q8.lt; have yt8 := Y8.lt; have ne80 : w8.heap.size ≠ w.heap.size := (by omega); have ne81 : w8.heap.size ≠ w.heap.size + 1 := (by omega); have ne82 : w8.heap.size ≠ X := (by omega); have HO8 : Hid (Own w8 xg (n * 3) (lineF L) ∧ Own w8 xk m (textF I)) := ⟨HO7.out.1.below hx8, HO7.out.2.below hx8⟩; have HB8 : Hid (Below w.heap.size w w8) := HB7.out.trans (hx8.mono HB7.out.size)) | (go_at_call 15; refine (HI.out xg xk _ hnl hml (HLy.out.below (by first | exact HB8.out | exact HB8.out.alloc HB8.out.size _)) (by first | exact HO8.out.1.lines | exact (HO8.out.1.below ((Below.refl _ _).alloc (Nat.le_refl _) _)).lines) (by first | exact HO8.out.2.texts | exact (HO8.out.2.below ((Below.refl _ _).alloc (Nat.le_refl _) _)).texts)).mono ?_; rintro e w9 ⟨ga, gc, gb, gd, rfl, oa, ob, al, bl, abn, hb9⟩; have hx9 : Below w8.heap.size w8 w9 := (by first | exact hb9 | exact (Below.refl _ w8).drew.trans hb9 | exact ((Below.refl _ w8).alloc (Nat.le_refl _) _).trans (hb9.mono (by simp)) | exact (((Below.refl _ w8).alloc (Nat.le_refl _) _).drew).trans (hb9.mono (by first | (simp; done) | (show w8.heap.size ≤ (w8.alloc _).heap.size; simp)))); have P9 := P8.below hx9; have p90 := P9.c0; have p91 := P9.c1; have Q9 := Q8.below hx9; have q90 := Q9.c0; have q91 := Q9.c1; have Y9 := Y8.below hx9; have y90 := Y9.c0; have y91 := Y9.c1; have T9 := T8.below hx9; have t90 := T9.c0; have t91 := T9.c1; (first | (have z9 : D4 w9 _ (.slice none 0 0) (.slice none 0 0) (.int .i64 0) (.int .i64 0) := z8.below hx9) | (have z9 : D4 w9 w8.heap.size (.slice none 0 0) (.slice none 0 0) (.int .i64 0) (.int .i64 0) := (D4.new w8 _ _ _ _ _).below hb9) | (have z9 : D4 w9 w8.heap.size (.slice none 0 0) (.slice none 0 0) (.int .i64 0) (.int .i64 0) := (D4.newd w8 _ _ _ _ _).below hb9) | skip); (try (have zz9 := z9; obtain ⟨zc90, zc91, zc92, zc93, zf9, zl9⟩ := zz9)); have lt9 := P9.lt; have mt9 := Q9.lt; have yt9 := Y9.lt; have ne90 : w9.heap.size ≠ w.heap.size := (by omega); have ne91 : w9.heap.size ≠ w.heap.size + 1 := (by omega); have ne92 : w9.heap.size ≠ X := (by omega); (first | (have la : ∀ j, ga.map Addr.block = some j → w8.heap.size + 1 ≤ j := fun j e => by have := (al j e).1; simpa using this) | (have la : ∀ j, ga.map Addr.block = some j → w8.heap.size ≤ j := fun j e => (al j e).1)); (first | (have lb : ∀ j, gb.map Addr.block = some j → w8.heap.size + 1 ≤ j := fun j e => by have := (bl j e).1; simpa using this) | (have lb : ∀ j, gb.map Addr.block = some j → w8.heap.size ≤ j := fun j e => (bl j e).1))))
      all_goals have HB9 : Below w.heap.size w w9 := HB8.out.trans (hx9.mono HB8.out.size)
      all_goals have HO9 : Own w9 xg (n * 3) (lineF L) ∧ Own w9 xk m (textF I) := ⟨HO8.out.1.below hx9, HO8.out.2.below hx9⟩
      all_goals have HS9 : OwnR w9 sa N 3 (lineF M) ∧ OwnR w9 sb K 1 (textF I) := ⟨(HS7.out.1.below hx8).below hx9, (HS7.out.2.below hx8).below hx9⟩
      all_goals have s8 := hx8.size
      all_goals have s9 := hx9.size
      all_goals have hsb1 := HSB.out.1
      all_goals have hsb2 := HSB.out.2
      all_goals go_wp2_with fail
      all_goals go_meet
      all_goals first
        | exact ⟨_, ga, gc, gb, gd, rfl, D4.new _ _ _ _ _ _, ⟨oa.below ((Below.refl _ _).alloc (Nat.le_refl _) _), ob.below ((Below.refl _ _).alloc (Nat.le_refl _) _)⟩, ⟨fun k e => ⟨by have := la k e; omega, by have := (al k e).2; simp; omega⟩, fun k e => ⟨by have := lb k e; omega, by have := (bl k e).2; simp; omega⟩⟩, ⟨fun k e => by have := (al k e).2; omega, fun k e => by have := (bl k e).2; omega, abn, by omega⟩, T9.below ((Below.refl _ _).alloc (Nat.le_refl _) _), ⟨HS9.1.below ((Below.refl _ _).alloc (Nat.le_refl _) _), HS9.2.below ((Below.refl _ _).alloc (Nat.le_refl _) _)⟩, P9.below ((Below.refl _ _).alloc (Nat.le_refl _) _), Q9.below ((Below.refl _ _).alloc (Nat.le_refl _) _), Y9.below ((Below.refl _ _).alloc (Nat.le_refl _) _), ⟨HO9.1.below ((Below.refl _ _).alloc (Nat.le_refl _) _), HO9.2.below ((Below.refl _ _).alloc (Nat.le_refl _) _)⟩, HB9.alloc HB9.size _⟩
        | exact ⟨_, ga, gc, gb, gd, rfl, z9.put _ _ _ _, ⟨oa.gr (set4_grown _ _ _ _ _ _) (fun j e => by have := la j e; omega), ob.gr (set4_grown _ _ _ _ _ _) (fun j e => by have := lb j e; omega)⟩, ⟨fun k e => ⟨by have := la k e; omega, by have := (al k e).2; simp; omega⟩, fun k e => ⟨by have := lb k e; omega, by have := (bl k e).2; simp; omega⟩⟩, ⟨fun k e => by have := la k e; omega, fun k e => by have := lb k e; omega, abn, by omega⟩, T9.gr (set4_grown _ _ _ _ _ _) (by omega), ⟨HS9.1.gr (set4_grown _ _ _ _ _ _) (fun j e => by have := hsb1 j e; omega), HS9.2.gr (set4_grown _ _ _ _ _ _) (fun j e => by have := hsb2 j e; omega)⟩, P9.gr (set4_grown _ _ _ _ _ _) (by omega), Q9.gr (set4_grown _ _ _ _ _ _) (by omega), Y9.gr (set4_grown _ _ _ _ _ _) (by omega), ⟨HO9.1.grown (set4_grown _ _ _ _ _ _) (by omega), HO9.2.grown (set4_grown _ _ _ _ _ _) (by omega)⟩, below_gr HB9 (set4_grown _ _ _ _ _ _) HB9.size (by omega)⟩
    case rest =>
      obtain ⟨G, ga, gc, gb, gd, rfl, H9⟩ := hcut
      have HG10 : Hid (D4 wc G (.slice ga N gc) (.slice gb K gd) (.int .i64 0) (.int .i64 cd)) := H9.out.1
      have HW10 : Hid (OwnR wc ga N 3 (lineF M) ∧ OwnR wc gb K 1 (textF I)) := H9.out.2.1
      have HGU : Hid ((∀ k, ga.map Addr.block = some k → k < wc.heap.size) ∧ ∀ k, gb.map Addr.block = some k → k < wc.heap.size) := ⟨fun k e => (H9.out.2.2.1.1 k e).2, fun k e => (H9.out.2.2.1.2 k e).2⟩
      have HGS : Hid ((∀ k, ga.map Addr.block = some k → w7.heap.size ≤ k) ∧ ∀ k, gb.map Addr.block = some k → w7.heap.size ≤ k) := ⟨fun k e => (H9.out.2.2.1.1 k e).1, fun k e => (H9.out.2.2.1.2 k e).1⟩
      have HNG : Hid ((∀ k, ga.map Addr.block = some k → k ≠ G) ∧ (∀ k, gb.map Addr.block = some k → k ≠ G) ∧ (∀ k, ga.map Addr.block = some k → gb.map Addr.block = some k → False) ∧ w7.heap.size ≤ G) := H9.out.2.2.2.1
      have HR10 : Hid (D4 wc R (.slice sa N sc) (.slice sb K sd) (.int .i64 0) (.int .i64 cd)) := H9.out.2.2.2.2.1
      have HS10 : Hid (OwnR wc sa N 3 (lineF M) ∧ OwnR wc sb K 1 (textF I)) := H9.out.2.2.2.2.2.1
      have HP10 : Hid (Bc wc w.heap.size (.slice a n cap) (.slice b m cap')) := H9.out.2.2.2.2.2.2.1
      have HQ10 : Hid (Bc wc (w.heap.size + 1) (.string x) (.string y)) := H9.out.2.2.2.2.2.2.2.1
      have HY10 : Hid (Bc wc X (.slice (some ⟨xg, 0, none⟩) n n) (.slice (some ⟨xk, 0, none⟩) m m)) := H9.out.2.2.2.2.2.2.2.2.1
      have HO10 : Hid (Own wc xg (n * 3) (lineF L) ∧ Own wc xk m (textF I)) := H9.out.2.2.2.2.2.2.2.2.2.1
      have HB10 : Hid (Below w.heap.size w wc) := H9.out.2.2.2.2.2.2.2.2.2.2
      have HST : Hid (w.heap.size + 2 ≤ xg ∧ xg < xk ∧ xk < w7.heap.size ∧ R < xg ∧ w7.heap.size ≤ G) := ⟨hwx, hxk, by omega, hRx, HNG.out.2.2.2⟩
      clear H9 Y7 P7 Q7 T7 y70 y71 q70 q71 lt7 mt7 yt7 ne70 ne71 ne72 HB7 HO7 HS7 hxX hxk hwx hRx
      obtain ⟨g0, g1, g2, g3, gf, glt⟩ := HG10.out
      obtain ⟨r0, r1, r2, r3, rf, rlt⟩ := HR10.out
      go_wp2_with fail
      refine (eq_bookOut ga sa gb sb N K gc gd sc sd M I 0 cd hN hK _ HW10.out.1 HS10.out.1 HW10.out.2 HS10.out.2).mono ?_
      rintro e w11 ⟨rfl, hb11⟩
      have HR11 : Hid (D4 w11 R (.slice sa N sc) (.slice sb K sd) (.int .i64 0) (.int .i64 cd)) := HR10.out.below hb11
      have HS11 : Hid (OwnR w11 sa N 3 (lineF M) ∧ OwnR w11 sb K 1 (textF I)) := ⟨HS10.out.1.below hb11, HS10.out.2.below hb11⟩
      have HG11 : Hid (D4 w11 G (.slice ga N gc) (.slice gb K gd) (.int .i64 0) (.int .i64 cd)) := HG10.out.below hb11
      have HW11 : Hid (OwnR w11 ga N 3 (lineF M) ∧ OwnR w11 gb K 1 (textF I)) := ⟨HW10.out.1.below hb11, HW10.out.2.below hb11⟩
      have HP11 : Hid (Bc w11 w.heap.size (.slice a n cap) (.slice b m cap')) := HP10.out.below hb11
      have HQ11 : Hid (Bc w11 (w.heap.size + 1) (.string x) (.string y)) := HQ10.out.below hb11
      have HY11 : Hid (Bc w11 X (.slice (some ⟨xg, 0, none⟩) n n) (.slice (some ⟨xk, 0, none⟩) m m)) := HY10.out.below hb11
      have HO11 : Hid (Own w11 xg (n * 3) (lineF L) ∧ Own w11 xk m (textF I)) := ⟨HO10.out.1.below hb11, HO10.out.2.below hb11⟩
      have HB11 : Hid (Below w.heap.size w w11) := HB10.out.trans (hb11.mono HB10.out.size)
      have HZ11 : Hid (wc.heap.size ≤ w11.heap.size) := hb11.size
      clear hb11 g0 g1 g2 g3 gf glt r0 r1 r2 r3 rf rlt
      clear HR10 HS10 HG10 HW10 HP10 HQ10 HY10 HO10 HB10
      obtain ⟨p0, p1, plt⟩ := HP11.out
      obtain ⟨y0, y1, ylt⟩ := HY11.out
      go_upto_region 13 with fail
      go_region_held3 (fun W => W.cell? ⟨w.heap.size, 0, none⟩ = some (.slice a n cap) ∧ W.cell? ⟨w.heap.size, 1, none⟩ = some (.slice b m cap') ∧ W.cell? ⟨X, 0, none⟩ = some (.slice (some ⟨xg, 0, none⟩) n n) ∧ W.cell? ⟨X, 1, none⟩ = some (.slice (some ⟨xk, 0, none⟩) m m)) (go_keep) (first | (go_at_call 19; refine (to_book a b n m cap cap' L I hnl hml _ (HL.out.below HB11.out.drew) (HI0.out.below HB11.out.drew)).mono ?_; rintro e w12 ⟨x', y', rfl, _, _, hO, hO', hb12⟩; have e0 := (hb12.cell (p := ⟨w.heap.size, 0, none⟩) plt).trans p0; have e1 := (hb12.cell (p := ⟨w.heap.size, 1, none⟩) plt).trans p1; have f0 := (hb12.cell (p := ⟨X, 0, none⟩) ylt).trans y0; have f1 := (hb12.cell (p := ⟨X, 1, none⟩) ylt).trans y1; have hbu : Below w11.heap.size w11 w12 := (Below.refl _ w11).drew.trans hb12; have HO12 : Hid (Own w12 xg (n * 3) (lineF L) ∧ Own w12 xk m (textF I)) := ⟨HO11.out.1.below hbu, HO11.out.2.below hbu⟩; have HY12 : Hid (Own w12 x' (n * 3) (lineF L) ∧ Own w12 y' m (textF I)) := ⟨hO, hO'⟩; clear hO hO') | (go_at_call 22; refine (eq_book _ _ _ _ n m _ _ _ _ L I hnl hml _ HO12.out.1.lines HY12.out.1.lines HO12.out.2.texts HY12.out.2.texts).mono ?_; rintro e w13 ⟨rfl, hb13⟩; have u0 := (hb13.cell (p := ⟨w.heap.size, 0, none⟩) (Nat.lt_of_lt_of_le plt hb12.size)).trans e0; have u1 := (hb13.cell (p := ⟨w.heap.size, 1, none⟩) (Nat.lt_of_lt_of_le plt hb12.size)).trans e1; have v0 := (hb13.cell (p := ⟨X, 0, none⟩) (Nat.lt_of_lt_of_le ylt hb12.size)).trans f0; have v1 := (hb13.cell (p := ⟨X, 1, none⟩) (Nat.lt_of_lt_of_le ylt hb12.size)).trans f1))
      have hz : Below w11.heap.size w11 w13 := hbu.trans (hb13.mono hbu.size)
      have HR13 : Hid (D4 w13 R (.slice sa N sc) (.slice sb K sd) (.int .i64 0) (.int .i64 cd)) := HR11.out.below hz
      have HS13 : Hid (OwnR w13 sa N 3 (lineF M) ∧ OwnR w13 sb K 1 (textF I)) := ⟨HS11.out.1.below hz, HS11.out.2.below hz⟩
      have HG13 : Hid (D4 w13 G (.slice ga N gc) (.slice gb K gd) (.int .i64 0) (.int .i64 cd)) := HG11.out.below hz
      have HW13 : Hid (OwnR w13 ga N 3 (lineF M) ∧ OwnR w13 gb K 1 (textF I)) := ⟨HW11.out.1.below hz, HW11.out.2.below hz⟩
      have HP13 : Hid (Bc w13 w.heap.size (.slice a n cap) (.slice b m cap')) := HP11.out.below hz
      have HQ13 : Hid (Bc w13 (w.heap.size + 1) (.string x) (.string y)) := HQ11.out.below hz
      have HY13 : Hid (Bc w13 X (.slice (some ⟨xg, 0, none⟩) n n) (.slice (some ⟨xk, 0, none⟩) m m)) := HY11.out.below hz
      have HO13 : Hid (Own w13 xg (n * 3) (lineF L) ∧ Own w13 xk m (textF I)) := ⟨HO11.out.1.below hz, HO11.out.2.below hz⟩
      have HB13 : Hid (Below w.heap.size w w13) := HB11.out.trans (hz.mono HB11.out.size)
      have HZ13 : Hid (wc.heap.size ≤ w13.heap.size) := Nat.le_trans HZ11.out hz.size
      clear hb12 hb13 hbu hz p0 p1 plt y0 y1 ylt e0 e1 f0 f1 u0 u1 v0 v1 HZ11 HO12 HY12
      clear HR11 HS11 HG11 HW11 HP11 HQ11 HY11 HO11 HB11
      obtain ⟨y0, y1, ylt⟩ := HY13.out
      obtain ⟨K1, hK1⟩ : ∃ K1 : Nat, K1 = 1 + n * 3 + m := ⟨_, rfl⟩
      have HK1 : Hid (K1 = 1 + n * 3 + m) := hK1
      clear hK1
      have q14 : decide ((K1 : Int) < 0) = false := by simp
      go_wp2_with fail
      refine (mark_book (some ⟨xg, 0, none⟩) n n (some ⟨xk, 0, none⟩) m m (lineF L) (textF I) hnl hml _ (Or.inr ⟨xg, rfl, HO13.out.1⟩) (Or.inr ⟨xk, rfl, by rw [Nat.mul_one]; exact HO13.out.2⟩) (fun k e => by simp at e; subst e; exact HO13.out.1.1) (fun k e => by simp at e; subst e; exact HO13.out.2.1) (fun k e e' => by simp at e e'; have := HST.out.2.1; omega)).mono ?_
      rintro e w14 ⟨rfl, _, _, hk⟩
      rw [← HK1.out]
      obtain ⟨t0, t1, t2, t3, t4⟩ := HST.out
      have HR14 : Hid (D4 w14 R (.slice sa N sc) (.slice sb K sd) (.int .i64 0) (.int .i64 cd)) := HR13.out.kb hk (by simp; omega) (by simp; omega)
      have HS14 : Hid (OwnR w14 sa N 3 (lineF M) ∧ OwnR w14 sb K 1 (textF I)) := ⟨hk.own HS13.out.1 (fun k e => by have := HSB.out.1 k e; simp; omega) (fun k e => by have := HSB.out.1 k e; simp; omega), hk.own HS13.out.2 (fun k e => by have := HSB.out.2 k e; simp; omega) (fun k e => by have := HSB.out.2 k e; simp; omega)⟩
      have HG14 : Hid (D4 w14 G (.slice ga N gc) (.slice gb K gd) (.int .i64 0) (.int .i64 cd)) := HG13.out.kb hk (by simp; omega) (by simp; omega)
      have HW14 : Hid (OwnR w14 ga N 3 (lineF M) ∧ OwnR w14 gb K 1 (textF I)) := ⟨hk.own HW13.out.1 (fun k e => by have := HGS.out.1 k e; simp; omega) (fun k e => by have := HGS.out.1 k e; simp; omega), hk.own HW13.out.2 (fun k e => by have := HGS.out.2 k e; simp; omega) (fun k e => by have := HGS.out.2 k e; simp; omega)⟩
      have HP14 : Hid (Bc w14 w.heap.size (.slice a n cap) (.slice b m cap')) := HP13.out.kb hk (by simp; omega) (by simp; omega)
      have HQ14 : Hid (Bc w14 (w.heap.size + 1) (.string x) (.string y)) := HQ13.out.kb hk (by simp; omega) (by simp; omega)
      have HB14 : Hid (Below w.heap.size w w14) := Kb.below HB13.out hk HB13.out.size (fun k e => by simp at e; omega) (fun k e => by simp at e; omega)
      have HZ14 : Hid (wc.heap.size ≤ w14.heap.size) := Nat.le_trans HZ13.out hk.size
      clear hk t0 t1 t2 t3 t4 y0 y1 ylt HZ13 HK1
      clear HR13 HS13 HG13 HW13 HP13 HQ13 HY13 HO13 HB13
      obtain ⟨g0, g1, g2, g3, gf, glt⟩ := HG14.out
      obtain ⟨r0, r1, r2, r3, rf, rlt⟩ := HR14.out
      go_wp2_with fail
      refine (eq_bookOut ga sa gb sb N K gc gd sc sd M I 0 cd hN hK _ HW14.out.1 HS14.out.1 HW14.out.2 HS14.out.2).mono ?_
      rintro e w15 ⟨rfl, hb15⟩
      have HR15 : Hid (D4 w15 R (.slice sa N sc) (.slice sb K sd) (.int .i64 0) (.int .i64 cd)) := HR14.out.below hb15
      have HS15 : Hid (OwnR w15 sa N 3 (lineF M) ∧ OwnR w15 sb K 1 (textF I)) := ⟨HS14.out.1.below hb15, HS14.out.2.below hb15⟩
      have HG15 : Hid (D4 w15 G (.slice ga N gc) (.slice gb K gd) (.int .i64 0) (.int .i64 cd)) := HG14.out.below hb15
      have HW15 : Hid (OwnR w15 ga N 3 (lineF M) ∧ OwnR w15 gb K 1 (textF I)) := ⟨HW14.out.1.below hb15, HW14.out.2.below hb15⟩
      have HP15 : Hid (Bc w15 w.heap.size (.slice a n cap) (.slice b m cap')) := HP14.out.below hb15
      have HQ15 : Hid (Bc w15 (w.heap.size + 1) (.string x) (.string y)) := HQ14.out.below hb15
      have HB15 : Hid (Below w.heap.size w w15) := HB14.out.trans (hb15.mono HB14.out.size)
      have HZ15 : Hid (wc.heap.size ≤ w15.heap.size) := Nat.le_trans HZ14.out hb15.size
      clear hb15 HZ14 g0 g1 g2 g3 gf glt r0 r1 r2 r3 rf rlt
      clear HR14 HS14 HG14 HW14 HP14 HQ14 HB14
      obtain ⟨g0, g1, g2, g3, gf, glt⟩ := HG15.out
      obtain ⟨K2, hK2⟩ : ∃ K2 : Nat, K2 = 1 + N * 3 + K := ⟨_, rfl⟩
      have HK2 : Hid (K2 = 1 + N * 3 + K) := hK2
      clear hK2
      go_wp2_with fail
      refine (mark_bookOut ga N gc gb K gd 0 cd (lineF M) (textF I) hN hK _ HW15.out.1 HW15.out.2 (fun k e => by have := HGU.out.1 k e; have := HZ15.out; omega) (fun k e => by have := HGU.out.2 k e; have := HZ15.out; omega) HNG.out.2.2.1).mono ?_
      rintro e w16 ⟨rfl, oa, ob, hk⟩
      rw [← HK2.out]
      obtain ⟨t0, t1, t2, t3, t4⟩ := HST.out
      have HM16 : Hid (OwnR w16 ga N 3 (mkLn 1) ∧ OwnR w16 gb K 1 (mkT (1 + N * 3))) := ⟨oa, ob⟩
      have HR16 : Hid (D4 w16 R (.slice sa N sc) (.slice sb K sd) (.int .i64 0) (.int .i64 cd)) := HR15.out.kb hk (fun e => by have := HGS.out.1 R e.symm; omega) (fun e => by have := HGS.out.2 R e.symm; omega)
      have HS16 : Hid (OwnR w16 sa N 3 (lineF M) ∧ OwnR w16 sb K 1 (textF I)) := ⟨hk.own HS15.out.1 (fun k e e' => by have := HSB.out.1 k e; have := HGS.out.1 k e'.symm; omega) (fun k e e' => by have := HSB.out.1 k e; have := HGS.out.2 k e'.symm; omega), hk.own HS15.out.2 (fun k e e' => by have := HSB.out.2 k e; have := HGS.out.1 k e'.symm; omega) (fun k e e' => by have := HSB.out.2 k e; have := HGS.out.2 k e'.symm; omega)⟩
      have HG16 : Hid (D4 w16 G (.slice ga N gc) (.slice gb K gd) (.int .i64 0) (.int .i64 cd)) := HG15.out.kb hk (fun e => HNG.out.1 G e.symm rfl) (fun e => HNG.out.2.1 G e.symm rfl)
      have HP16 : Hid (Bc w16 w.heap.size (.slice a n cap) (.slice b m cap')) := HP15.out.kb hk (fun e => by have := HGS.out.1 _ e.symm; omega) (fun e => by have := HGS.out.2 _ e.symm; omega)
      have HQ16 : Hid (Bc w16 (w.heap.size + 1) (.string x) (.string y)) := HQ15.out.kb hk (fun e => by have := HGS.out.1 _ e.symm; omega) (fun e => by have := HGS.out.2 _ e.symm; omega)
      have HB16 : Hid (Below w.heap.size w w16) := Kb.below HB15.out hk HB15.out.size (fun k e => by have := HGS.out.1 k e; omega) (fun k e => by have := HGS.out.2 k e; omega)
      have HZ16 : Hid (wc.heap.size ≤ w16.heap.size) := Nat.le_trans HZ15.out hk.size
      clear hk oa ob t0 t1 t2 t3 t4 HZ15 g0 g1 g2 g3 gf glt
      clear HR15 HS15 HG15 HW15 HP15 HQ15 HB15
      obtain ⟨g0, g1, g2, g3, gf, glt⟩ := HG16.out
      have q17 : decide ((K2 : Int) < 0) = false := by simp
      have qq : ∀ z : Int, (z != z) = false := fun z => by simp
      go_wp2_with fail
      refine (held_bookOut ga N gc gb K gd 0 cd hN hK _ HM16.out.1 HM16.out.2).mono ?_
      rintro e w17 ⟨rfl, hb17⟩
      rw [← HK2.out]
      have HR17 : Hid (D4 w17 R (.slice sa N sc) (.slice sb K sd) (.int .i64 0) (.int .i64 cd)) := HR16.out.below hb17
      have HS17 : Hid (OwnR w17 sa N 3 (lineF M) ∧ OwnR w17 sb K 1 (textF I)) := ⟨HS16.out.1.below hb17, HS16.out.2.below hb17⟩
      have HG17 : Hid (D4 w17 G (.slice ga N gc) (.slice gb K gd) (.int .i64 0) (.int .i64 cd)) := HG16.out.below hb17
      have HM17 : Hid (OwnR w17 ga N 3 (mkLn 1) ∧ OwnR w17 gb K 1 (mkT (1 + N * 3))) := ⟨HM16.out.1.below hb17, HM16.out.2.below hb17⟩
      have HP17 : Hid (Bc w17 w.heap.size (.slice a n cap) (.slice b m cap')) := HP16.out.below hb17
      have HQ17 : Hid (Bc w17 (w.heap.size + 1) (.string x) (.string y)) := HQ16.out.below hb17
      have HB17 : Hid (Below w.heap.size w w17) := HB16.out.trans (hb17.mono HB16.out.size)
      have HZ17 : Hid (wc.heap.size ≤ w17.heap.size) := Nat.le_trans HZ16.out hb17.size
      clear hb17 HZ16 g0 g1 g2 g3 gf glt
      clear HR16 HS16 HG16 HM16 HP16 HQ16 HB16
      have P17 := HP17.out
      have Q17 := HQ17.out
      have lt17 := P17.lt
      have mt17 := Q17.lt
      have ne170 : w17.heap.size ≠ w.heap.size := by omega
      have ne171 : w17.heap.size ≠ w.heap.size + 1 := by omega
      obtain ⟨p0, p1, plt⟩ := HP17.out
      obtain ⟨q0, q1, qlt⟩ := HQ17.out
      go_upto_region 27 with fail
      go_cut [12] (fun r wx => ∃ (H : Nat) (ua : Option Addr) (uc : Nat) (ub : Option Addr) (ud : Nat), r = .pointer (some ⟨H, 0, none⟩) ∧ Hid (D4 wx H (.slice ua N uc) (.slice ub K ud) (.int .i64 0) (.int .i64 cd) ∧ (OwnR wx ua N 3 (lineF M) ∧ OwnR wx ub K 1 (textF I)) ∧ D4 wx R (.slice sa N sc) (.slice sb K sd) (.int .i64 0) (.int .i64 cd) ∧ (OwnR wx sa N 3 (lineF M) ∧ OwnR wx sb K 1 (textF I)) ∧ D4 wx G (.slice ga N gc) (.slice gb K gd) (.int .i64 0) (.int .i64 cd) ∧ (OwnR wx ga N 3 (mkLn 1) ∧ OwnR wx gb K 1 (mkT (1 + N * 3))) ∧ Below w.heap.size w wx))
      case first =>
        go_region_held3 (fun W => W.cell? ⟨w.heap.size, 0, none⟩ = some (.slice a n cap) ∧ W.cell? ⟨w.heap.size, 1, none⟩ = some (.slice b m cap') ∧ W.cell? ⟨w.heap.size + 1, 0, none⟩ = some (.string x) ∧ W.cell? ⟨w.heap.size + 1, 1, none⟩ = some (.string y)) (go_keep) (first | (go_at_call 19; refine (to_book a b n m cap cap' L I hnl hml _ (HL.out.below (by first | exact HB17.out.drew | exact HB17.out | exact (HB17.out.alloc HB17.out.size _).drew | exact HB17.out.alloc HB17.out.size _)) (HI0.out.below (by first | exact HB17.out.drew | exact HB17.out | exact (HB17.out.alloc HB17.out.size _).drew | exact HB17.out.alloc HB17.out.size _))).mono ?_; rintro e w23 ⟨g, k, rfl, _, _, hO, hO', hb23⟩; have hx23 : Below w17.heap.size w17 w23 := (by first | exact hb23 | exact (Below.refl _ w17).drew.trans hb23 | exact ((Below.refl _ w17).alloc (Nat.le_refl _) _).trans (hb23.mono (by simp)) | exact (((Below.refl _ w17).alloc (Nat.le_refl _) _).drew).trans (hb23.mono (by first | (simp; done) | (show w17.heap.size ≤ (w17.alloc _).heap.size; simp)))); have P23 := P17.below hx23; have p230 := P23.c0; have p231 := P23.c1; have Q23 := Q17.below hx23; have q230 := Q23.c0; have q231 := Q23.c1; (first | (have z23 : D4 w23 _ (.slice none 0 0) (.slice none 0 0) (.int .i64 0) (.int .i64 0) := znone.below hx23) | (have z23 : D4 w23 w17.heap.size (.slice none 0 0) (.slice none 0 0) (.int .i64 0) (.int .i64 0) := (D4.new w17 _ _ _ _ _).below hb23) | (have z23 : D4 w23 w17.heap.size (.slice none 0 0) (.slice none 0 0) (.int .i64 0) (.int .i64 0) := (D4.newd w17 _ _ _ _ _).below hb23) | skip); (try (have zz23 := z23; obtain ⟨zc230, zc231, zc232, zc233, zf23, zl23⟩ := zz23)); have lt23 := P23.lt; have mt23 := Q23.lt; have ne230 : w23.heap.size ≠ w.heap.size := (by omega); have ne231 : w23.heap.size ≠ w.heap.size + 1 := (by omega); have HO23 : Hid (Own w23 g (n * 3) (lineF L) ∧ Own w23 k m (textF I)) := ⟨hO, hO'⟩; have HBs23 : Hid (Below w.heap.size w w23) := HB17.out.trans (hx23.mono HB17.out.size); clear hO hO') | (go_at_call 20; refine (to_spot x y _).mono ?_; rintro e w24 ⟨rfl, hb24⟩; have hx24 : Below w23.heap.size w23 w24 := (by first | exact hb24 | exact (Below.refl _ w23).drew.trans hb24 | exact ((Below.refl _ w23).alloc (Nat.le_refl _) _).trans (hb24.mono (by simp)) | exact (((Below.refl _ w23).alloc (Nat.le_refl _) _).drew).trans (hb24.mono (by first | (simp; done) | (show w23.heap.size ≤ (w23.alloc _).heap.size; simp)))); have P24 := P23.below hx24; have p240 := P24.c0; have p241 := P24.c1; have Q24 := Q23.below hx24; have q240 := Q24.c0; have q241 := Q24.c1; (first | (have z24 : D4 w24 _ (.slice none 0 0) (.slice none 0 0) (.int .i64 0) (.int .i64 0) := z23.below hx24) | (have z24 : D4 w24 w23.heap.size (.slice none 0 0) (.slice none 0 0) (.int .i64 0) (.int .i64 0) := (D4.new w23 _ _ _ _ _).below hb24) | (have z24 : D4 w24 w23.heap.size (.slice none 0 0) (.slice none 0 0) (.int .i64 0) (.int .i64 0) := (D4.newd w23 _ _ _ _ _).below hb24) | skip); (try (have zz24 := z24; obtain ⟨zc240, zc241, zc242, zc243, zf24, zl24⟩ := zz24)); have lt24 := P24.lt; have mt24 := Q24.lt; have ne240 : w24.heap.size ≠ w.heap.size := (by omega); have ne241 : w24.heap.size ≠ w.heap.size + 1 := (by omega); have HO24 : Hid (Own w24 g (n * 3) (lineF L) ∧ Own w24 k m (textF I)) := ⟨HO23.out.1.below hx24, HO23.out.2.below hx24⟩; have HBs24 : Hid (Below w.heap.size w w24) := HBs23.out.trans (hx24.mono HBs23.out.size)) | (go_at_call 15; refine (HI.out g k _ hnl hml (HLy.out.below (by first | exact HBs24.out | exact HBs24.out.alloc HBs24.out.size _)) (by first | exact HO24.out.1.lines | exact (HO24.out.1.below ((Below.refl _ _).alloc (Nat.le_refl _) _)).lines) (by first | exact HO24.out.2.texts | exact (HO24.out.2.below ((Below.refl _ _).alloc (Nat.le_refl _) _)).texts)).mono ?_; rintro e w25 ⟨ua, uc, ub, ud, rfl, oa, ob, al, bl, abn, hb25⟩; have hx25 : Below w24.heap.size w24 w25 := (by first | exact hb25 | exact (Below.refl _ w24).drew.trans hb25 | exact ((Below.refl _ w24).alloc (Nat.le_refl _) _).trans (hb25.mono (by simp)) | exact (((Below.refl _ w24).alloc (Nat.le_refl _) _).drew).trans (hb25.mono (by first | (simp; done) | (show w24.heap.size ≤ (w24.alloc _).heap.size; simp)))); have P25 := P24.below hx25; have p250 := P25.c0; have p251 := P25.c1; have Q25 := Q24.below hx25; have q250 := Q25.c0; have q251 := Q25.c1; (first | (have z25 : D4 w25 _ (.slice none 0 0) (.slice none 0 0) (.int .i64 0) (.int .i64 0) := z24.below hx25) | (have z25 : D4 w25 w24.heap.size (.slice none 0 0) (.slice none 0 0) (.int .i64 0) (.int .i64 0) := (D4.new w24 _ _ _ _ _).below hb25) | (have z25 : D4 w25 w24.heap.size (.slice none 0 0) (.slice none 0 0) (.int .i64 0) (.int .i64 0) := (D4.newd w24 _ _ _ _ _).below hb25) | skip); (try (have zz25 := z25; obtain ⟨zc250, zc251, zc252, zc253, zf25, zl25⟩ := zz25)); have lt25 := P25.lt; have mt25 := Q25.lt; have ne250 : w25.heap.size ≠ w.heap.size := (by omega); have ne251 : w25.heap.size ≠ w.heap.size + 1 := (by omega); (first | (have la : ∀ j, ua.map Addr.block = some j → w24.heap.size + 1 ≤ j := fun j e => by have := (al j e).1; simpa using this) | (have la : ∀ j, ua.map Addr.block = some j → w24.heap.size ≤ j := fun j e => (al j e).1)); (first | (have lb : ∀ j, ub.map Addr.block = some j → w24.heap.size + 1 ≤ j := fun j e => by have := (bl j e).1; simpa using this) | (have lb : ∀ j, ub.map Addr.block = some j → w24.heap.size ≤ j := fun j e => (bl j e).1))))
        all_goals have hz25 : Below w17.heap.size w17 w25 := (hx23.trans (hx24.mono hx23.size)).trans (hx25.mono (Nat.le_trans hx23.size hx24.size))
        all_goals have HB25 : Below w.heap.size w w25 := HB17.out.trans (hz25.mono HB17.out.size)
        all_goals have R25 := HR17.out.below hz25
        all_goals have G25 := HG17.out.below hz25
        all_goals have S25 : OwnR w25 sa N 3 (lineF M) ∧ OwnR w25 sb K 1 (textF I) := ⟨HS17.out.1.below hz25, HS17.out.2.below hz25⟩
        all_goals have M25 : OwnR w25 ga N 3 (mkLn 1) ∧ OwnR w25 gb K 1 (mkT (1 + N * 3)) := ⟨HM17.out.1.below hz25, HM17.out.2.below hz25⟩
        all_goals have s23 := hx23.size
        all_goals have s24 := hx24.size
        all_goals have rl17 := HR17.out.lt
        all_goals have gl17 := HG17.out.lt
        all_goals have z17 := HZ17.out
        all_goals obtain ⟨t0, t1, t2, t3, t4⟩ := HST.out
        all_goals have hsb1 := HSB.out.1
        all_goals have hsb2 := HSB.out.2
        all_goals have hgu1 := HGU.out.1
        all_goals have hgu2 := HGU.out.2
        all_goals go_wp2_with fail
        all_goals go_meet
        all_goals first
          | exact ⟨_, ua, uc, ub, ud, rfl, D4.new _ _ _ _ _ _, ⟨oa.below ((Below.refl _ _).alloc (Nat.le_refl _) _), ob.below ((Below.refl _ _).alloc (Nat.le_refl _) _)⟩, R25.below ((Below.refl _ _).alloc (Nat.le_refl _) _), ⟨S25.1.below ((Below.refl _ _).alloc (Nat.le_refl _) _), S25.2.below ((Below.refl _ _).alloc (Nat.le_refl _) _)⟩, G25.below ((Below.refl _ _).alloc (Nat.le_refl _) _), ⟨M25.1.below ((Below.refl _ _).alloc (Nat.le_refl _) _), M25.2.below ((Below.refl _ _).alloc (Nat.le_refl _) _)⟩, HB25.alloc HB25.size _⟩
          | exact ⟨_, ua, uc, ub, ud, rfl, z25.put _ _ _ _, ⟨oa.gr (set4_grown _ _ _ _ _ _) (fun j e => by have := la j e; omega), ob.gr (set4_grown _ _ _ _ _ _) (fun j e => by have := lb j e; omega)⟩, R25.gr (set4_grown _ _ _ _ _ _) (by omega), ⟨S25.1.gr (set4_grown _ _ _ _ _ _) (fun j e => by have := hsb1 j e; omega), S25.2.gr (set4_grown _ _ _ _ _ _) (fun j e => by have := hsb2 j e; omega)⟩, G25.gr (set4_grown _ _ _ _ _ _) (by omega), ⟨M25.1.gr (set4_grown _ _ _ _ _ _) (fun j e => by have := hgu1 j e; omega), M25.2.gr (set4_grown _ _ _ _ _ _) (fun j e => by have := hgu2 j e; omega)⟩, below_gr HB25 (set4_grown _ _ _ _ _ _) HB25.size (by omega)⟩
      case rest =>
        obtain ⟨H, ua, uc, ub, ud, rfl, H27⟩ := hcut
        clear P17 Q17 lt17 mt17 ne170 ne171 p0 p1 plt q0 q1 qlt
        obtain ⟨g0, g1, g2, g3, gf, glt⟩ := H27.out.1
        obtain ⟨r0, r1, r2, r3, rf, rlt⟩ := H27.out.2.2.1
        go_wp2_with fail
        refine (eq_bookOut ua sa ub sb N K uc ud sc sd M I 0 cd hN hK _ H27.out.2.1.1 H27.out.2.2.2.1.1 H27.out.2.1.2 H27.out.2.2.2.1.2).mono ?_
        rintro e w31 ⟨rfl, hb31⟩
        have HG31 : Hid (D4 w31 G (.slice ga N gc) (.slice gb K gd) (.int .i64 0) (.int .i64 cd)) := H27.out.2.2.2.2.1.below hb31
        have HM31 : Hid (OwnR w31 ga N 3 (mkLn 1) ∧ OwnR w31 gb K 1 (mkT (1 + N * 3))) := ⟨H27.out.2.2.2.2.2.1.1.below hb31, H27.out.2.2.2.2.2.1.2.below hb31⟩
        have HB31 : Hid (Below w.heap.size w w31) := H27.out.2.2.2.2.2.2.trans (hb31.mono H27.out.2.2.2.2.2.2.size)
        clear hb31 g0 g1 g2 g3 gf glt r0 r1 r2 r3 rf rlt H27
        obtain ⟨g0, g1, g2, g3, gf, glt⟩ := HG31.out
        go_wp2_with fail
        refine (held_bookOut ga N gc gb K gd 0 cd hN hK _ HM31.out.1 HM31.out.2).mono ?_
        rintro e w32 ⟨rfl, hb32⟩
        rw [← HK2.out]
        have HB32 : Hid (Below w.heap.size w w32) := HB31.out.trans (hb32.mono HB31.out.size)
        clear hb32 HB31 HM31 HG31 g0 g1 g2 g3 gf glt
        go_wp2_with fail
        go_ret
        exact ⟨rfl, HB32.out⟩
end Go.Proofs.YtpabdapaegllnaaDoor
