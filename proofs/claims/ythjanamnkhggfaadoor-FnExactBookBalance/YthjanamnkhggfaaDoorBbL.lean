/- The law of BookBalance. -/
import Derived.Test.YthjanamnkhggfaaDoorBbI
namespace Go.Proofs.YthjanamnkhggfaaDoor
open Go.RowKit
open Go.Proofs.YthjanamnkhggfaaDoor.Draw

/-- Two cells of a block. -/
structure Bc (W : World) (b : Nat) (v u : Value) : Prop where
  c0 : W.cell? ⟨b, 0, none⟩ = some v
  c1 : W.cell? ⟨b, 1, none⟩ = some u
  lt : b < W.heap.size
theorem Bc.below {W W' : World} {b : Nat} {v u : Value} (h : Bc W b v u) (hb : Below W.heap.size W W') : Bc W' b v u :=
  ⟨(hb.cell (p := ⟨b, 0, none⟩) h.lt).trans h.c0, (hb.cell (p := ⟨b, 1, none⟩) h.lt).trans h.c1, Nat.lt_of_lt_of_le h.lt hb.size⟩
theorem Bc.new (w : World) (v u : Value) (t : TypeId) : Bc (w.alloc (.cells #[v, u] t)) w.heap.size v u := ⟨by simp, by simp, by simp⟩
/-- A new outcome's block. -/
structure Zm (W : World) (R : Nat) : Prop where
  c0 : W.cell? ⟨R, 0, none⟩ = some (.int .i64 0)
  c1 : W.cell? ⟨R, 1, none⟩ = some (.int .i64 0)
  fz : ∀ j, W.frozen? ⟨R, j, none⟩ = false
  lt : R < W.heap.size
theorem Zm.new (w : World) (t : TypeId) : Zm (w.alloc (.cells #[.int .i64 0, .int .i64 0] t)) w.heap.size := ⟨by simp, by simp, fun j => fnew' rfl j, by simp⟩
theorem Zm.newd (w : World) (t : TypeId) : Zm (w.alloc (.cells #[.int .i64 0, .int .i64 0] t)).drew w.heap.size := ⟨by simp, by simp, fun j => by show (w.alloc _).frozen? _ = false; exact fnew' rfl j, by show w.heap.size < (w.alloc _).heap.size; simp⟩
theorem Zm.below {W W' : World} {R : Nat} (h : Zm W R) (hb : Below W.heap.size W W') : Zm W' R :=
  ⟨(hb.cell (p := ⟨R, 0, none⟩) h.lt).trans h.c0, (hb.cell (p := ⟨R, 1, none⟩) h.lt).trans h.c1, fun j => (hb.frozen (p := ⟨R, j, none⟩) h.lt).trans (h.fz j), Nat.lt_of_lt_of_le h.lt hb.size⟩
theorem Zm.put {W : World} {R : Nat} (h : Zm W R) (u v : Value) : Bc ((W.setCell ⟨R, 0, none⟩ u).setCell ⟨R, 1, none⟩ v) R u v := by
  have a0 := h.c0
  have a1 := h.c1
  refine ⟨?_, ?_, by simpa using h.lt⟩
  · rw [World.cell?_setCell_other _ _ _ _ (by simp)]; simp [go_sem, a0]
  · have : (W.setCell ⟨R, 0, none⟩ u).cell? ⟨R, 1, none⟩ = some (.int .i64 0) := by rw [World.cell?_setCell_other _ _ _ _ (by simp)]; exact a1
    simp [go_sem, this]
theorem Bc.set2 {W : World} {b R : Nat} {v u x y : Value} (h : Bc W b v u) (hne : b ≠ R) : Bc ((W.setCell ⟨R, 0, none⟩ x).setCell ⟨R, 1, none⟩ y) b v u := by
  have hb := (setGrown (j := 1) (u := y) (setGrown (j := 0) (u := x) (World.grownBy.refl W (some R)))).block b h.lt (by simpa using hne)
  exact ⟨(World.cell?_of_block (a := ⟨b, 0, none⟩) hb).trans h.c0, (World.cell?_of_block (a := ⟨b, 1, none⟩) hb).trans h.c1, by simpa using h.lt⟩
theorem below_set2 {w W : World} {R : Nat} {x y : Value} (h : Below w.heap.size w W) (hR : w.heap.size ≤ R) : Below w.heap.size w ((W.setCell ⟨R, 0, none⟩ x).setCell ⟨R, 1, none⟩ y) := (h.setCell (by exact hR) _).setCell (by exact hR) _
theorem Own.set2 {W : World} {g N R : Nat} {F : Nat → Value} {x y : Value} (h : Own W g N F) (hne : g ≠ R) : Own ((W.setCell ⟨R, 0, none⟩ x).setCell ⟨R, 1, none⟩ y) g N F := (h.grown (setGrown (World.grownBy.refl _ _)) hne).grown (setGrown (World.grownBy.refl _ _)) hne
set_option maxRecDepth 100000 in
set_option maxHeartbeats 4000000 in
theorem eq_money2 (n c : Int) (w : World) :
    Calls Tryd.prog 34 #[.agg #[.int .i64 n, .int .i64 c], .agg #[.int .i64 n, .int .i64 c]] w fun e w' => e = .returned (.bool true) ∧ Below w.heap.size w w' := by
  go_enter Tryd.func34, Tryd.ntmps34
  go_wp2
  go_ret
  exact ⟨rfl, ((Below.refl _ _).alloc (Nat.le_refl _) _).alloc (by simp) _⟩
set_option maxRecDepth 100000 in
set_option maxHeartbeats 8000000 in
theorem law_bookBalance (a b : Option Addr) (n m cap cap' : Nat) (L : Nat → Ln) (I : Nat → Tx) (hn : n ≤ maxLen) (hm : m ≤ maxLen) (hf : ∀ i, i < n → (L i).fits) (hfi : ∀ i, i < m → (I i).fits) (x y : ByteArray) (hx : x.size ≤ maxLen) (hy : y.size ≤ maxLen) (w : World) (hL : Lay w) (h : LinesAt w a n L) (h' : TextsAt w b m I) :
    Calls Tryd.prog 7 #[.agg #[.slice a n cap, .slice b m cap'], .agg #[.string x, .string y]] w fun e w' => e = .returned (.bool true) ∧ Below w.heap.size w w' := by
  have HL : Hid (LinesAt w a n L) := h
  have HI0 : Hid (TextsAt w b m I) := h'
  have HF : Hid ((∀ i, i < n → (L i).fits) ∧ ∀ i, i < m → (I i).fits) := ⟨hf, hfi⟩
  have HN : Hid (n ≤ maxLen ∧ m ≤ maxLen) := ⟨hn, hm⟩
  have HXY : Hid (x.size ≤ maxLen ∧ y.size ≤ maxLen) := ⟨hx, hy⟩
  have HLy : Hid (Lay w) := hL
  have T0 := two_now w #[.slice a n cap, .slice b m cap'] #[.string x, .string y] 56 57
  have HB0 : Hid (Below w.heap.size w ((w.alloc (.cells #[.slice a n cap, .slice b m cap'] 56)).alloc (.cells #[.string x, .string y] 57))) := T0.bel
  have HP0 : Hid (Bc ((w.alloc (.cells #[.slice a n cap, .slice b m cap'] 56)).alloc (.cells #[.string x, .string y] 57)) w.heap.size (.slice a n cap) (.slice b m cap')) := (Bc.new _ _ _ _).below ((Below.refl _ _).alloc (Nat.le_refl _) _)
  have HQ0 : Hid (Bc ((w.alloc (.cells #[.slice a n cap, .slice b m cap'] 56)).alloc (.cells #[.string x, .string y] 57)) (w.heap.size + 1) (.string x) (.string y)) := by
    have t1 := Bc.new (w.alloc (.cells #[.slice a n cap, .slice b m cap'] 56)) (.string x) (.string y) 57
    have t2 : Bc ((w.alloc (.cells #[.slice a n cap, .slice b m cap'] 56)).alloc (.cells #[.string x, .string y] 57)) (w.heap.size + 1) (.string x) (.string y) := by simpa using t1
    exact t2
  obtain ⟨Z, hZ⟩ : ∃ Z, Z = balB n m L I x y := ⟨_, rfl⟩
  have HS : Hid (∀ g k W, n ≤ 1048576 → m ≤ 1048576 → LinesAt W (some ⟨g, 0, none⟩) n L → TextsAt W (some ⟨k, 0, none⟩) m I → Calls Tryd.prog 33 #[.agg #[.slice (some ⟨g, 0, none⟩) n n, .slice (some ⟨k, 0, none⟩) m m], .agg #[.string x, .string y]] W fun e w' => e = .returned (.agg #[.int .i64 Z.1, .int .i64 Z.2]) ∧ Below W.heap.size W w') := fun g k W h1 h2 h3 h4 => by rw [hZ]; exact spec_bal _ _ n m n m L I h1 h2 HF.out.1 HF.out.2 x y W h3 h4
  have HI : Hid (∀ g k W, n ≤ 1048576 → m ≤ 1048576 → Lay W → LinesAt W (some ⟨g, 0, none⟩) n L → TextsAt W (some ⟨k, 0, none⟩) m I → Calls Tryd.prog 18 #[.agg #[.slice (some ⟨g, 0, none⟩) n n, .slice (some ⟨k, 0, none⟩) m m], .agg #[.string x, .string y]] W fun e w' => e = .returned (.agg #[.int .i64 Z.1, .int .i64 Z.2]) ∧ Below W.heap.size W w') := fun g k W h1 h2 h5 h3 h4 => by rw [hZ]; exact impl_bal g 0 k 0 n m n m L I h1 h2 HF.out.1 HF.out.2 x y HXY.out.1 HXY.out.2 W h5 h3 h4
  generalize Z.1 = z1 at *
  generalize Z.2 = z2 at *
  clear h h' hf hfi hn hm hZ hx hy hL T0
  go_enter Tryd.func7, Tryd.ntmps7
  go_wp2_with fail
  refine (sz_book a b n m cap cap' L I HN.out.1 HN.out.2 HF.out.1 HF.out.2 1048576 (by omega) _ (HL.out.below HB0.out) (HI0.out.below HB0.out)).mono ?_
  rintro e w1 ⟨he, hb1⟩
  have HB1 : Hid (Below w.heap.size w w1) := HB0.out.trans (hb1.mono HB0.out.size)
  have HP1 : Hid (Bc w1 w.heap.size (.slice a n cap) (.slice b m cap')) := HP0.out.below hb1
  have HQ1 : Hid (Bc w1 (w.heap.size + 1) (.string x) (.string y)) := HQ0.out.below hb1
  obtain ⟨q0, q1, qlt⟩ := HQ1.out
  clear hb1 HP0 HQ0 HB0
  rcases he with rfl | ⟨r, rfl, hr, hnl, hml, _, _⟩
  · have q' : decide ((-1 : Int) < 0) = true := rfl
    go_wp2_with fail
    go_ret
    exact ⟨rfl, HB1.out⟩
  have q' : decide ((r : Int) < 0) = false := by simp
  go_wp2_with fail
  refine (sz_spot x y HXY.out.1 HXY.out.2 r (by omega) _).mono ?_
  rintro e w2 ⟨he, hb2⟩
  have HB2 : Hid (Below w.heap.size w w2) := HB1.out.trans (hb2.mono HB1.out.size)
  have HP2 : Hid (Bc w2 w.heap.size (.slice a n cap) (.slice b m cap')) := HP1.out.below hb2
  have HQ2 : Hid (Bc w2 (w.heap.size + 1) (.string x) (.string y)) := HQ1.out.below hb2
  clear hb2 HP1 HQ1 q0 q1 qlt
  rcases he with ⟨rfl, _⟩ | ⟨rfl, hle⟩
  · have q' : decide ((-1 : Int) < 0) = true := rfl
    go_wp2_with fail
    go_ret
    exact ⟨rfl, HB2.out⟩
  obtain ⟨t, ht⟩ : ∃ t, t = r - (x.size + y.size) := ⟨_, rfl⟩
  rw [← ht]
  have q'' : decide ((t : Int) < 0) = false := by simp
  clear ht hle
  have P2 := HP2.out
  have Q2 := HQ2.out
  have lt2 := P2.lt
  have mt2 := Q2.lt
  have ne20 : w2.heap.size ≠ w.heap.size := by omega
  have ne21 : w2.heap.size ≠ w.heap.size + 1 := by omega
  have P2 := HP2.out
  have Q2 := HQ2.out
  have lt2 := P2.lt
  have mt2 := Q2.lt
  have ne20 : w2.heap.size ≠ w.heap.size := by omega
  have ne21 : w2.heap.size ≠ w.heap.size + 1 := by omega
  have P2 := HP2.out
  have Q2 := HQ2.out
  have lt2 := P2.lt
  have mt2 := Q2.lt
  have ne20 : w2.heap.size ≠ w.heap.size := by omega
  have ne21 : w2.heap.size ≠ w.heap.size + 1 := by omega
  obtain ⟨p0, p1, plt⟩ := HP2.out
  obtain ⟨q0, q1, qlt⟩ := HQ2.out
  have P2 := HP2.out
  have Q2 := HQ2.out
  have lt2 := P2.lt
  have mt2 := Q2.lt
  have ne20 : w2.heap.size ≠ w.heap.size := by omega
  have ne21 : w2.heap.size ≠ w.heap.size + 1 := by omega
  go_upto_region 8 with fail
  go_cut [6] (fun r wx => ∃ R : Nat, r = .pointer (some ⟨R, 0, none⟩) ∧ Hid (Bc wx R (.int .i64 z1) (.int .i64 z2) ∧ Bc wx w.heap.size (.slice a n cap) (.slice b m cap') ∧ Bc wx (w.heap.size + 1) (.string x) (.string y) ∧ Below w.heap.size w wx))
  case first =>
    go_region_held3 (fun W => W.cell? ⟨w.heap.size, 0, none⟩ = some (.slice a n cap) ∧ W.cell? ⟨w.heap.size, 1, none⟩ = some (.slice b m cap') ∧ W.cell? ⟨w.heap.size + 1, 0, none⟩ = some (.string x) ∧ W.cell? ⟨w.heap.size + 1, 1, none⟩ = some (.string y)) (go_keep) (first | (go_at_call 26; refine (to_book a b n m cap cap' L I hnl hml _ (HL.out.below (by first | exact HB2.out.drew | exact HB2.out | exact (HB2.out.alloc HB2.out.size _).drew | exact HB2.out.alloc HB2.out.size _)) (HI0.out.below (by first | exact HB2.out.drew | exact HB2.out | exact (HB2.out.alloc HB2.out.size _).drew | exact HB2.out.alloc HB2.out.size _))).mono ?_; rintro e w3 ⟨g, k, rfl, _, _, hO, hO', hb3⟩; have hx3 : Below w2.heap.size w2 w3 := (by first | exact hb3 | exact (Below.refl _ w2).drew.trans hb3 | exact ((Below.refl _ w2).alloc (Nat.le_refl _) _).trans (hb3.mono (by simp)) | exact (((Below.refl _ w2).alloc (Nat.le_refl _) _).drew).trans (hb3.mono (by first | (simp; done) | (show w2.heap.size ≤ (w2.alloc _).heap.size; simp)))); have P3 := P2.below hx3; have p30 := P3.c0; have p31 := P3.c1; have Q3 := Q2.below hx3; have q30 := Q3.c0; have q31 := Q3.c1; (first | (have z3 : Zm w3 _ := znone.below hx3) | (have z3 : Zm w3 w2.heap.size := (Zm.new w2 _).below hb3) | (have z3 : Zm w3 w2.heap.size := (Zm.newd w2 _).below hb3) | skip); (try (have zz3 := z3; obtain ⟨zc30, zc31, zf3, zl3⟩ := zz3)); have lt3 := P3.lt; have mt3 := Q3.lt; have ne30 : w3.heap.size ≠ w.heap.size := (by omega); have ne31 : w3.heap.size ≠ w.heap.size + 1 := (by omega); have HO3 : Hid (Own w3 g (n * 3) (lineF L) ∧ Own w3 k m (textF I)) := ⟨hO, hO'⟩; clear hO hO') | (go_at_call 27; refine (to_spot x y _).mono ?_; rintro e w4 ⟨rfl, hb4⟩; have hx4 : Below w3.heap.size w3 w4 := (by first | exact hb4 | exact (Below.refl _ w3).drew.trans hb4 | exact ((Below.refl _ w3).alloc (Nat.le_refl _) _).trans (hb4.mono (by simp)) | exact (((Below.refl _ w3).alloc (Nat.le_refl _) _).drew).trans (hb4.mono (by first | (simp; done) | (show w3.heap.size ≤ (w3.alloc _).heap.size; simp)))); have P4 := P3.below hx4; have p40 := P4.c0; have p41 := P4.c1; have Q4 := Q3.below hx4; have q40 := Q4.c0; have q41 := Q4.c1; (first | (have z4 : Zm w4 _ := z3.below hx4) | (have z4 : Zm w4 w3.heap.size := (Zm.new w3 _).below hb4) | (have z4 : Zm w4 w3.heap.size := (Zm.newd w3 _).below hb4) | skip); (try (have zz4 := z4; obtain ⟨zc40, zc41, zf4, zl4⟩ := zz4)); have lt4 := P4.lt; have mt4 := Q4.lt; have ne40 : w4.heap.size ≠ w.heap.size := (by omega); have ne41 : w4.heap.size ≠ w.heap.size + 1 := (by omega); have HO4 : Hid (Own w4 g (n * 3) (lineF L) ∧ Own w4 k m (textF I)) := ⟨HO3.out.1.below hx4, HO3.out.2.below hx4⟩) | (go_at_call 33; refine (HS.out g k _ hnl hml (by first | exact HO4.out.1.lines | exact (HO4.out.1.below ((Below.refl _ _).alloc (Nat.le_refl _) _)).lines) (by first | exact HO4.out.2.texts | exact (HO4.out.2.below ((Below.refl _ _).alloc (Nat.le_refl _) _)).texts)).mono ?_; rintro e w5 ⟨rfl, hb5⟩; have hx5 : Below w4.heap.size w4 w5 := (by first | exact hb5 | exact (Below.refl _ w4).drew.trans hb5 | exact ((Below.refl _ w4).alloc (Nat.le_refl _) _).trans (hb5.mono (by simp)) | exact (((Below.refl _ w4).alloc (Nat.le_refl _) _).drew).trans (hb5.mono (by first | (simp; done) | (show w4.heap.size ≤ (w4.alloc _).heap.size; simp)))); have P5 := P4.below hx5; have p50 := P5.c0; have p51 := P5.c1; have Q5 := Q4.below hx5; have q50 := Q5.c0; have q51 := Q5.c1; (first | (have z5 : Zm w5 _ := z4.below hx5) | (have z5 : Zm w5 w4.heap.size := (Zm.new w4 _).below hb5) | (have z5 : Zm w5 w4.heap.size := (Zm.newd w4 _).below hb5) | skip); (try (have zz5 := z5; obtain ⟨zc50, zc51, zf5, zl5⟩ := zz5)); have lt5 := P5.lt; have mt5 := Q5.lt; have ne50 : w5.heap.size ≠ w.heap.size := (by omega); have ne51 : w5.heap.size ≠ w.heap.size + 1 := (by omega)))
    all_goals have HB5 : Below w.heap.size w w5 := HB2.out.trans (((hx3.trans (hx4.mono hx3.size)).trans (hx5.mono (Nat.le_trans hx3.size hx4.size))).mono HB2.out.size)
    all_goals go_wp2_with fail
    all_goals go_meet
    all_goals first
      | exact ⟨_, rfl, Bc.new _ _ _ _, P5.below ((Below.refl _ _).alloc (Nat.le_refl _) _), Q5.below ((Below.refl _ _).alloc (Nat.le_refl _) _), HB5.alloc HB5.size _⟩
      | exact ⟨_, rfl, z5.put _ _, P5.set2 (by omega), Q5.set2 (by omega), below_set2 HB5 (by omega)⟩
  case rest =>
    obtain ⟨R, rfl, H6⟩ := hcut
    have HR6 : Hid (Bc wc R (.int .i64 z1) (.int .i64 z2)) := H6.out.1
    have HP6 : Hid (Bc wc w.heap.size (.slice a n cap) (.slice b m cap')) := H6.out.2.1
    have HQ6 : Hid (Bc wc (w.heap.size + 1) (.string x) (.string y)) := H6.out.2.2.1
    have HB6 : Hid (Below w.heap.size w wc) := H6.out.2.2.2
    clear H6 P2 Q2 lt2 mt2 ne20 ne21 p0 p1 plt q0 q1 qlt
    obtain ⟨p0, p1, plt⟩ := HP6.out
    go_wp2_with fail
    refine (to_book a b n m cap cap' L I hnl hml _ (HL.out.below HB6.out) (HI0.out.below HB6.out)).mono ?_
    rintro e w6 ⟨xg, xk, rfl, _, _, hO, hO', hb6⟩
    have hal : Below w6.heap.size w6 (w6.alloc (.cells #[.slice (some ⟨xg, 0, none⟩) n n, .slice (some ⟨xk, 0, none⟩) m m] 26)) := (Below.refl _ _).alloc (Nat.le_refl _) _
    have hB7 : Below w.heap.size w (w6.alloc (.cells #[.slice (some ⟨xg, 0, none⟩) n n, .slice (some ⟨xk, 0, none⟩) m m] 26)) := (HB6.out.trans (hb6.mono HB6.out.size)).trans (hal.mono (Nat.le_trans HB6.out.size hb6.size))
    have hR7 := (HR6.out.below hb6).below hal
    have hP7 := (HP6.out.below hb6).below hal
    have hQ7 := (HQ6.out.below hb6).below hal
    have hX7 := Bc.new w6 (.slice (some ⟨xg, 0, none⟩) n n) (.slice (some ⟨xk, 0, none⟩) m m) 26
    have hO7 := hO.below hal
    have hO7' := hO'.below hal
    clear hb6 hal hO hO' HR6 HP6 HQ6 HB6 p0 p1 plt
    go_upto_region 10 with fail
    obtain ⟨w7, hw7⟩ : ∃ W, W = w6.alloc (.cells #[.slice (some ⟨xg, 0, none⟩) n n, .slice (some ⟨xk, 0, none⟩) m m] 26) := ⟨_, rfl⟩
    obtain ⟨X, hX⟩ : ∃ X, X = w6.heap.size := ⟨_, rfl⟩
    rw [← hw7] at hB7 hR7 hP7 hQ7 hX7 hO7 hO7' ⊢
    rw [← hX] at hX7 ⊢
    clear hw7 hX
    have HB7 : Hid (Below w.heap.size w w7) := hB7
    have HO7 : Hid (Own w7 xg (n * 3) (lineF L) ∧ Own w7 xk m (textF I)) := ⟨hO7, hO7'⟩
    have Y7 := hX7
    have P7 := hP7
    have Q7 := hQ7
    have T7 := hR7
    have y70 := Y7.c0
    have y71 := Y7.c1
    have q70 := Q7.c0
    have q71 := Q7.c1
    have lt7 := P7.lt
    have mt7 := Q7.lt
    have yt7 := Y7.lt
    have ne70 : w7.heap.size ≠ w.heap.size := by omega
    have ne71 : w7.heap.size ≠ w.heap.size + 1 := by omega
    have ne72 : w7.heap.size ≠ X := by omega
    have neX : X ≠ w.heap.size + 1 := fun e => by have c := Y7.c0; rw [e, Q7.c0] at c; cases c
    clear hB7 hR7 hP7 hQ7 hX7 hO7 hO7'
    go_cut [8] (fun r wx => ∃ G : Nat, r = .pointer (some ⟨G, 0, none⟩) ∧ Hid (Bc wx G (.int .i64 z1) (.int .i64 z2) ∧ Bc wx R (.int .i64 z1) (.int .i64 z2) ∧ Bc wx w.heap.size (.slice a n cap) (.slice b m cap') ∧ Bc wx X (.slice (some ⟨xg, 0, none⟩) n n) (.slice (some ⟨xk, 0, none⟩) m m) ∧ (Own wx xg (n * 3) (lineF L) ∧ Own wx xk m (textF I)) ∧ Below w.heap.size w wx))
    case first =>
      go_region_held3 (fun W => W.cell? ⟨X, 0, none⟩ = some (.slice (some ⟨xg, 0, none⟩) n n) ∧ W.cell? ⟨X, 1, none⟩ = some (.slice (some ⟨xk, 0, none⟩) m m) ∧ W.cell? ⟨w.heap.size + 1, 0, none⟩ = some (.string x) ∧ W.cell? ⟨w.heap.size + 1, 1, none⟩ = some (.string y)) (go_keep) (first | (go_at_call 27; refine (to_spot x y _).mono ?_; rintro e w8 ⟨rfl, hb8⟩; have hx8 : Below w7.heap.size w7 w8 := (by first | exact hb8 | exact (Below.refl _ w7).drew.trans hb8 | exact ((Below.refl _ w7).alloc (Nat.le_refl _) _).trans (hb8.mono (by simp)) | exact (((Below.refl _ w7).alloc (Nat.le_refl _) _).drew).trans (hb8.mono (by first | (simp; done) | (show w7.heap.size ≤ (w7.alloc _).heap.size; simp)))); have P8 := P7.below hx8; have p80 := P8.c0; have p81 := P8.c1; have Q8 := Q7.below hx8; have q80 := Q8.c0; have q81 := Q8.c1; have Y8 := Y7.below hx8; have y80 := Y8.c0; have y81 := Y8.c1; have T8 := T7.below hx8; have t80 := T8.c0; have t81 := T8.c1; (first | (have z8 : Zm w8 _ := znone.below hx8) | (have z8 : Zm w8 w7.heap.size := (Zm.new w7 _).below hb8) | (have z8 : Zm w8 w7.heap.size := (Zm.newd w7 _).below hb8) | skip); (try (have zz8 := z8; obtain ⟨zc80, zc81, zf8, zl8⟩ := zz8)); have lt8 := P8.lt; have mt8 := Q8.lt; have yt8 := Y8.lt; have ne80 : w8.heap.size ≠ w.heap.size := (by omega); have ne81 : w8.heap.size ≠ w.heap.size + 1 := (by omega); have ne82 : w8.heap.size ≠ X := (by omega); have HO8 : Hid (Own w8 xg (n * 3) (lineF L) ∧ Own w8 xk m (textF I)) := ⟨HO7.out.1.below hx8, HO7.out.2.below hx8⟩; have HB8 : Hid (Below w.heap.size w w8) := HB7.out.trans (hx8.mono HB7.out.size)) | (go_at_call 18; refine (HI.out xg xk _ hnl hml (HLy.out.below (by first | exact HB8.out | exact HB8.out.alloc HB8.out.size _)) (by first | exact HO8.out.1.lines | exact (HO8.out.1.below ((Below.refl _ _).alloc (Nat.le_refl _) _)).lines) (by first | exact HO8.out.2.texts | exact (HO8.out.2.below ((Below.refl _ _).alloc (Nat.le_refl _) _)).texts)).mono ?_; rintro e w9 ⟨rfl, hb9⟩; have hx9 : Below w8.heap.size w8 w9 := (by first | exact hb9 | exact (Below.refl _ w8).drew.trans hb9 | exact ((Below.refl _ w8).alloc (Nat.le_refl _) _).trans (hb9.mono (by simp)) | exact (((Below.refl _ w8).alloc (Nat.le_refl _) _).drew).trans (hb9.mono (by first | (simp; done) | (show w8.heap.size ≤ (w8.alloc _).heap.size; simp)))); have P9 := P8.below hx9; have p90 := P9.c0; have p91 := P9.c1; have Q9 := Q8.below hx9; have q90 := Q9.c0; have q91 := Q9.c1; have Y9 := Y8.below hx9; have y90 := Y9.c0; have y91 := Y9.c1; have T9 := T8.below hx9; have t90 := T9.c0; have t91 := T9.c1; (first | (have z9 : Zm w9 _ := z8.below hx9) | (have z9 : Zm w9 w8.heap.size := (Zm.new w8 _).below hb9) | (have z9 : Zm w9 w8.heap.size := (Zm.newd w8 _).below hb9) | skip); (try (have zz9 := z9; obtain ⟨zc90, zc91, zf9, zl9⟩ := zz9)); have lt9 := P9.lt; have mt9 := Q9.lt; have yt9 := Y9.lt; have ne90 : w9.heap.size ≠ w.heap.size := (by omega); have ne91 : w9.heap.size ≠ w.heap.size + 1 := (by omega); have ne92 : w9.heap.size ≠ X := (by omega)))
      all_goals have HB9 : Below w.heap.size w w9 := HB7.out.trans ((hx8.trans (hx9.mono hx8.size)).mono HB7.out.size)
      all_goals have HO9 : Own w9 xg (n * 3) (lineF L) ∧ Own w9 xk m (textF I) := ⟨HO8.out.1.below hx9, HO8.out.2.below hx9⟩
      all_goals have g7 := HO7.out.1.1
      all_goals have k7 := HO7.out.2.1
      all_goals have s8 := hx8.size
      all_goals have t7 := T7.lt
      all_goals go_wp2_with fail
      all_goals go_meet
      all_goals first
        | exact ⟨_, rfl, Bc.new _ _ _ _, T9.below ((Below.refl _ _).alloc (Nat.le_refl _) _), P9.below ((Below.refl _ _).alloc (Nat.le_refl _) _), Y9.below ((Below.refl _ _).alloc (Nat.le_refl _) _), ⟨HO9.1.below ((Below.refl _ _).alloc (Nat.le_refl _) _), HO9.2.below ((Below.refl _ _).alloc (Nat.le_refl _) _)⟩, HB9.alloc HB9.size _⟩
        | exact ⟨_, rfl, z9.put _ _, T9.set2 (by omega), P9.set2 (by omega), Y9.set2 (by omega), ⟨HO9.1.set2 (by omega), HO9.2.set2 (by omega)⟩, below_set2 HB9 (by omega)⟩
    case rest =>
      obtain ⟨G, rfl, H9⟩ := hcut
      have HG9 : Hid (Bc wc G (.int .i64 z1) (.int .i64 z2)) := H9.out.1
      have HR9 : Hid (Bc wc R (.int .i64 z1) (.int .i64 z2)) := H9.out.2.1
      have HP9 : Hid (Bc wc w.heap.size (.slice a n cap) (.slice b m cap')) := H9.out.2.2.1
      have HY9 : Hid (Bc wc X (.slice (some ⟨xg, 0, none⟩) n n) (.slice (some ⟨xk, 0, none⟩) m m)) := H9.out.2.2.2.1
      have HO9 : Hid (Own wc xg (n * 3) (lineF L) ∧ Own wc xk m (textF I)) := H9.out.2.2.2.2.1
      have HB9 : Hid (Below w.heap.size w wc) := H9.out.2.2.2.2.2
      clear H9 Y7 P7 Q7 T7 y70 y71 q70 q71 lt7 mt7 yt7 ne70 ne71 ne72 neX HB7 HO7
      obtain ⟨g0, g1, glt⟩ := HG9.out
      obtain ⟨r0, r1, rlt⟩ := HR9.out
      go_wp2_with fail
      refine (eq_money2 z1 z2 _).mono ?_
      rintro e w10 ⟨rfl, hb10⟩
      have HB10 : Hid (Below w.heap.size w w10) := HB9.out.trans (hb10.mono HB9.out.size)
      have HO10 : Hid (Own w10 xg (n * 3) (lineF L) ∧ Own w10 xk m (textF I)) := ⟨HO9.out.1.below hb10, HO9.out.2.below hb10⟩
      obtain ⟨p0, p1, plt⟩ := HP9.out.below hb10
      obtain ⟨y0, y1, ylt⟩ := HY9.out.below hb10
      clear hb10 HG9 HR9 HP9 HY9 HO9 HB9 g0 g1 glt r0 r1 rlt
      go_upto_region 13 with fail
      go_region_held3 (fun W => W.cell? ⟨w.heap.size, 0, none⟩ = some (.slice a n cap) ∧ W.cell? ⟨w.heap.size, 1, none⟩ = some (.slice b m cap') ∧ W.cell? ⟨X, 0, none⟩ = some (.slice (some ⟨xg, 0, none⟩) n n) ∧ W.cell? ⟨X, 1, none⟩ = some (.slice (some ⟨xk, 0, none⟩) m m)) (go_keep) (first | (go_at_call 26; refine (to_book a b n m cap cap' L I hnl hml _ (HL.out.below HB10.out.drew) (HI0.out.below HB10.out.drew)).mono ?_; rintro e w11 ⟨x', y', rfl, _, _, hO, hO', hb11⟩; have e0 := (hb11.cell (p := ⟨w.heap.size, 0, none⟩) plt).trans p0; have e1 := (hb11.cell (p := ⟨w.heap.size, 1, none⟩) plt).trans p1; have f0 := (hb11.cell (p := ⟨X, 0, none⟩) ylt).trans y0; have f1 := (hb11.cell (p := ⟨X, 1, none⟩) ylt).trans y1; have hbu : Below w10.heap.size w10 w11 := (Below.refl _ w10).drew.trans hb11; have HO11 : Hid (Own w11 xg (n * 3) (lineF L) ∧ Own w11 xk m (textF I)) := ⟨HO10.out.1.below hbu, HO10.out.2.below hbu⟩; have HY11 : Hid (Own w11 x' (n * 3) (lineF L) ∧ Own w11 y' m (textF I)) := ⟨hO, hO'⟩; clear hO hO') | (go_at_call 29; refine (eq_book _ _ _ _ n m _ _ _ _ L I hnl hml _ HO11.out.1.lines HY11.out.1.lines HO11.out.2.texts HY11.out.2.texts).mono ?_; rintro e w12 ⟨rfl, hb12⟩; have u0 := (hb12.cell (p := ⟨w.heap.size, 0, none⟩) (Nat.lt_of_lt_of_le plt hb11.size)).trans e0; have u1 := (hb12.cell (p := ⟨w.heap.size, 1, none⟩) (Nat.lt_of_lt_of_le plt hb11.size)).trans e1; have v0 := (hb12.cell (p := ⟨X, 0, none⟩) (Nat.lt_of_lt_of_le ylt hb11.size)).trans f0; have v1 := (hb12.cell (p := ⟨X, 1, none⟩) (Nat.lt_of_lt_of_le ylt hb11.size)).trans f1))
      have HB12 : Hid (Below w.heap.size w w12) := HB10.out.trans ((hbu.trans (hb12.mono hbu.size)).mono HB10.out.size)
      clear hb11 hb12 hbu p0 p1 y0 y1 e0 e1 f0 f1 u0 u1 v0 v1
      go_wp2_with fail
      go_ret
      exact ⟨rfl, HB12.out⟩
end Go.Proofs.YthjanamnkhggfaaDoor
