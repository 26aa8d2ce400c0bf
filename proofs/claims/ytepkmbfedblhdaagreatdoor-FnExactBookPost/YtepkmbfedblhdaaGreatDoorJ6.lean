/- Legs posted in a right book: what the model's call does. · Legs posted: what the model's face does. · Legs posted to a book: the program's call, whole. · Lines marked and looked at again: what the laws' helpers do. · Books and what is handed out beside a code: compared, marked, looked at again. · Books handed out, compared. · Books marked. · Marked books looked at again. · Books handed out, marked and looked at again. · A balance asked (spec.BookBalance): what the call does. · A balance asked (impl.BookBalance): what the call does. · The law of BookBalance. · Legs marked and looked at again: what the laws' helpers do. -/
import Derived.Test.YtepkmbfedblhdaaGreatDoorJ5
import Derived.Test.YtepkmbfedblhdaaGreatDoorJ2
import Derived.Test.YtepkmbfedblhdaaGreatDoorJ1
import Derived.Test.YtepkmbfedblhdaaGreatDoorJ4
import Derived.Test.YtepkmbfedblhdaaGreatDoorJ3
namespace Go.Proofs.YtepkmbfedblhdaaGreatDoor
open Go.RowKit
open Go.Proofs.YtepkmbfedblhdaaGreatDoor.Draw

/-- A block of a book's answer. -/
structure Y4 (W : World) (Y : Nat) (u v x y : Value) : Prop where
  c0 : W.cell? ⟨Y, 0, none⟩ = some u
  c1 : W.cell? ⟨Y, 1, none⟩ = some v
  c2 : W.cell? ⟨Y, 2, none⟩ = some x
  c3 : W.cell? ⟨Y, 3, none⟩ = some y
  fz : ∀ j, W.frozen? ⟨Y, j, none⟩ = false
  lt : Y < W.heap.size
theorem Y4.new (w : World) (u v x y : Value) (t : TypeId) : Y4 (w.alloc (.cells #[u, v, x, y] t)) w.heap.size u v x y := ⟨by simp, by simp, by simp, by simp, fun j => fnew' rfl j, by simp⟩
theorem Y4.below {W W' : World} {Y : Nat} {u v x y : Value} (h : Y4 W Y u v x y) (hb : Below W.heap.size W W') : Y4 W' Y u v x y := ⟨(hb.cell (p := ⟨Y, 0, none⟩) h.lt).trans h.c0, (hb.cell (p := ⟨Y, 1, none⟩) h.lt).trans h.c1, (hb.cell (p := ⟨Y, 2, none⟩) h.lt).trans h.c2, (hb.cell (p := ⟨Y, 3, none⟩) h.lt).trans h.c3, fun j => (hb.frozen (p := ⟨Y, j, none⟩) h.lt).trans (h.fz j), Nat.lt_of_lt_of_le h.lt hb.size⟩
theorem Y4.grown {W W' : World} {Y : Nat} {u v x y : Value} {row : Option Nat} (h : Y4 W Y u v x y) (hg : W.grownBy W' row) (hne : some Y ≠ row) : Y4 W' Y u v x y := by
  have hb := hg.block Y h.lt hne
  exact ⟨(World.cell?_of_block (a := ⟨Y, 0, none⟩) hb).trans h.c0, (World.cell?_of_block (a := ⟨Y, 1, none⟩) hb).trans h.c1, (World.cell?_of_block (a := ⟨Y, 2, none⟩) hb).trans h.c2, (World.cell?_of_block (a := ⟨Y, 3, none⟩) hb).trans h.c3, fun j => (World.frozen?_of_block (a := ⟨Y, j, none⟩) hb).trans (h.fz j), Nat.lt_of_lt_of_le h.lt hg.size⟩
theorem Y4.set1 {W : World} {Y : Nat} {u v x y : Value} (h : Y4 W Y u v x y) (z : Value) : Y4 (W.setCell ⟨Y, 1, none⟩ z) Y u z x y := by
  have a1 := h.c1
  exact ⟨by rw [World.cell?_setCell_other _ _ _ _ (by simp)]; exact h.c0, by simp [go_sem, a1], by rw [World.cell?_setCell_other _ _ _ _ (by simp)]; exact h.c2, by rw [World.cell?_setCell_other _ _ _ _ (by simp)]; exact h.c3, fun j => by simp only [World.frozen?_setCell]; exact h.fz j, by simpa using h.lt⟩
/-- What stands beside the ids as they grow. -/
structure Ps (w W : World) (Y : Nat) (a : Option Addr) (n c : Nat) (L : Nat → Ln) (v : Value) (cs : Array Value) : Prop where
  bp : Bp w W cs #[.slice none 0 0, .slice none 0 0, .int .i64 0, .int .i64 0]
  y4 : Y4 W Y (.slice a n c) v (.int .i64 0) (.int .i64 0)
  row : W.ownsRow w.heap.size 84 3 (.slice a n c) n (linesC L n)
  hY : w.heap.size + 2 ≤ Y
  ha : ∀ j, a.map Addr.block = some j → w.heap.size + 2 ≤ j ∧ j < Y
theorem Ps.below {w W W' : World} {Y : Nat} {a : Option Addr} {n c : Nat} {L : Nat → Ln} {v : Value} {cs : Array Value} (h : Ps w W Y a n c L v cs) (hb : Below W.heap.size W W') : Ps w W' Y a n c L v cs :=
  ⟨h.bp.next hb, h.y4.below hb, own_below h.row hb, h.hY, h.ha⟩
theorem Ps.grown {w W W' : World} {Y : Nat} {a : Option Addr} {n c : Nat} {L : Nat → Ln} {v : Value} {cs : Array Value} {row : Option Nat} (h : Ps w W Y a n c L v cs) (hg : W.grownBy W' row) (hr : ∀ j, row = some j → Y + 1 ≤ j) : Ps w W' Y a n c L v cs := by
  have hY := h.hY
  have hlt := h.y4.lt
  refine ⟨h.bp.low ((Below.refl _ _).grown hg (by omega) (fun k e => by have := hr k e; omega)), h.y4.grown hg (fun e => by have := hr Y e.symm; omega), h.row.kept hg ?_, h.hY, h.ha⟩
  rw [ownBlock_map]
  cases e : a.map Addr.block with
  | none => exact Or.inl rfl
  | some j => exact Or.inr (fun e' => by have := hr j e'.symm; have := h.ha j e; omega)
theorem Ps.set1 {w W : World} {Y : Nat} {a : Option Addr} {n c : Nat} {L : Nat → Ln} {v : Value} {cs : Array Value} (h : Ps w W Y a n c L v cs) (u : Value) : Ps w (W.setCell ⟨Y, 1, none⟩ u) Y a n c L u cs := by
  have hY := h.hY
  refine ⟨h.bp.low ((Below.refl _ _).setCell (by exact hY) _), h.y4.set1 _, h.row.kept (row := some Y) (setGrown (World.grownBy.refl _ _)) ?_, h.hY, h.ha⟩
  rw [ownBlock_map]
  cases e : a.map Addr.block with
  | none => exact Or.inl rfl
  | some j => exact Or.inr (fun e' => by have := h.ha j e; simp at e'; omega)
theorem take_texts (I : Nat → Tx) (k n : Nat) (hk : k ≤ n) : (textsC I n).take k = textsC I k := by
  apply List.ext_getElem?
  intro j
  rw [List.getElem?_take]
  by_cases hj : j < k
  · rw [if_pos hj, textsC_at _ _ _ (by omega), textsC_at _ _ _ hj]
  · rw [if_neg hj, List.getElem?_eq_none (by rw [textsC_len]; omega)]
theorem TextsAt.less {w : World} {a : Option Addr} {n k : Nat} {I : Nat → Tx} (h : TextsAt w a n I) (hk : k ≤ n) : TextsAt w a k I := by
  rcases h with h | ⟨g, o, rfl, hg, hc⟩
  · exact Or.inl (by omega)
  · exact Or.inr ⟨g, o, rfl, hg, fun i hi => hc i (by omega)⟩
theorem in_there {I : Nat → Tx} {z : ByteArray} {m k : Nat} (hok : ∀ j, j < m → okId I j = true) (hk : IsMark I z m k) : inB I m z = thereB I z m k := by
  cases h : thereB I z m k with
  | true =>
    have := of_decide_eq_true h
    exact inB_true this.1 this.2
  | false => exact inB_false fun j hj e => by rw [there_at hok hk j hj e] at h; cases h
set_option maxRecDepth 100000 in
set_option maxHeartbeats 16000000 in
theorem spec_post_no (g o g' o' n m cap cap' : Nat) (L : Nat → Ln) (I : Nat → Tx) (hm : m ≤ 100) (hokI : ∀ j, j < m → okId I j = true) (z : ByteArray) (k : Nat) (hk : IsMark I z m k) (q : Option Addr) (K kc : Nat) (w : World) (h' : TextsAt w (some ⟨g', o', none⟩) m I) (cd : Int) (hc : (thereB I z m k = true ∧ cd = 7) ∨ (thereB I z m k = false ∧ 100 ≤ m ∧ cd = 16)) :
    Calls Tryz.prog 23 #[.agg #[.slice (some ⟨g, o, none⟩) n cap, .slice (some ⟨g', o', none⟩) m cap'], .string z, .slice q K kc] w (BkOut w 0 0 L I 0 cd) := by
  have T0 := Bp.now w #[.slice (some ⟨g, o, none⟩) n cap, .slice (some ⟨g', o', none⟩) m cap'] #[.slice none 0 0, .slice none 0 0, .int .i64 0, .int .i64 0] 31 33
  have s2 : w.heap.size ≤ w.heap.size + 1 := by omega
  have HIN := spec_in (some ⟨g', o', none⟩) m cap' I z (by omega) ((w.alloc (.cells #[.slice (some ⟨g, o, none⟩) n cap, .slice (some ⟨g', o', none⟩) m cap'] 31)).alloc (.cells #[.slice none 0 0, .slice none 0 0, .int .i64 0, .int .i64 0] 33)) (h'.below T0.bel)
  rw [in_there hokI hk] at HIN
  have HT0 : Hid (Bp w ((w.alloc (.cells #[.slice (some ⟨g, o, none⟩) n cap, .slice (some ⟨g', o', none⟩) m cap'] 31)).alloc (.cells #[.slice none 0 0, .slice none 0 0, .int .i64 0, .int .i64 0] 33)) #[.slice (some ⟨g, o, none⟩) n cap, .slice (some ⟨g', o', none⟩) m cap'] #[.slice none 0 0, .slice none 0 0, .int .i64 0, .int .i64 0]) := T0
  clear h' hokI hk T0
  rcases hc with ⟨hth, rfl⟩ | ⟨hth, h100, rfl⟩
  all_goals
    rw [hth] at HIN
    have HIN : Hid (Calls Tryz.prog 46 _ _ _) := HIN
    clear hth
  · obtain ⟨b0, b1⟩ : _ ∧ _ := ⟨HT0.out.box 0, HT0.out.box 1⟩
    simp at b0 b1
    go_enter Tryz.func23, Tryz.ntmps23
    go_wp2_with fail
    refine HIN.out.mono ?_
    rintro e w1 ⟨rfl, rfl⟩
    go_wp2_with fail
    refine bodyPost_ret (v := .agg #[.slice none 0 0, .slice none 0 0, .int .i64 0, .int .i64 7]) ?_ rfl ?_
    · simp [results, Tryz.results23, go_sem]
    · exact BkOut.err (((Below.refl _ _).alloc (Nat.le_refl _) _).alloc (by simp) _)
  · have r0 : decide (100 ≤ m) = true := by simpa using h100
    have r1 : decide ((100 : Int) ≤ (m : Int)) = true := by simp; omega
    obtain ⟨b0, b1⟩ : _ ∧ _ := ⟨HT0.out.box 0, HT0.out.box 1⟩
    simp at b0 b1
    go_enter Tryz.func23, Tryz.ntmps23
    go_wp2_with fail
    refine HIN.out.mono ?_
    rintro e w1 ⟨rfl, rfl⟩
    go_wp2_with fail
    refine bodyPost_ret (v := .agg #[.slice none 0 0, .slice none 0 0, .int .i64 0, .int .i64 16]) ?_ rfl ?_
    · simp [results, Tryz.results23, go_sem]
    · exact BkOut.err (((Below.refl _ _).alloc (Nat.le_refl _) _).alloc (by simp) _)
set_option maxRecDepth 100000 in
set_option maxHeartbeats 16000000 in
theorem spec_post_legs (g o g' o' n m cap cap' : Nat) (L : Nat → Ln) (I : Nat → Tx) (hn : n ≤ 60) (hm : m < 100) (hcap : m ≤ cap') (hcap' : cap' ≤ maxLen) (hok : ∀ j, j < n → okLine L j = true) (hf : ∀ j, j < n → (L j).fits) (hokI : ∀ j, j < m → okId I j = true) (z : ByteArray) (k : Nat) (hk : IsMark I z m k) (hth : thereB I z m k = false) (q : Option Addr) (K kc : Nat) (Q : Nat → Lg) (hK : K ≤ 20) (hleg : ∀ i, i < K → okLeg (Q i) = true) (w : World) (h : LinesAt w (some ⟨g, o, none⟩) n L) (h' : TextsAt w (some ⟨g', o', none⟩) m I) (hQ : LegsAt w q K Q) (R : Pf) (hR : R = if (postB n Q K 0 L).2.2 = 0 then ⟨n, m + 1, (postB n Q K 0 L).1, insT I k z, 0, 0⟩ else ⟨0, 0, L, I, ((postB n Q K 0 L).2.1 : Int), (postB n Q K 0 L).2.2⟩) :
    Calls Tryz.prog 23 #[.agg #[.slice (some ⟨g, o, none⟩) n cap, .slice (some ⟨g', o', none⟩) m cap'], .string z, .slice q K kc] w (BkOut w R.N R.K R.L R.I R.p R.cd) := by
  obtain ⟨i0, hi, hz0, hz1, hz2⟩ := info_parts infoTx
  unfold maxLen at hcap'
  have T0 := Bp.now w #[.slice (some ⟨g, o, none⟩) n cap, .slice (some ⟨g', o', none⟩) m cap'] #[.slice none 0 0, .slice none 0 0, .int .i64 0, .int .i64 0] 31 33
  have s2 : w.heap.size ≤ w.heap.size + 1 := by omega
  have HIN := spec_in (some ⟨g', o', none⟩) m cap' I z (by omega) ((w.alloc (.cells #[.slice (some ⟨g, o, none⟩) n cap, .slice (some ⟨g', o', none⟩) m cap'] 31)).alloc (.cells #[.slice none 0 0, .slice none 0 0, .int .i64 0, .int .i64 0] 33)) (h'.below T0.bel)
  rw [in_there hokI hk, hth] at HIN
  have HIN : Hid (Calls Tryz.prog 46 _ _ _) := HIN
  have HLG := spec_legs_post g o g' o' n m cap cap' L I hn (by omega) hok hf q K kc Q hK hleg ((w.alloc (.cells #[.slice (some ⟨g, o, none⟩) n cap, .slice (some ⟨g', o', none⟩) m cap'] 31)).alloc (.cells #[.slice none 0 0, .slice none 0 0, .int .i64 0, .int .i64 0] 33)) (h.below T0.bel) (h'.below T0.bel) (hQ.below T0.bel)
  have HLG : Hid (Calls Tryz.prog 47 _ _ _) := HLG
  have HT0 : Hid (Bp w ((w.alloc (.cells #[.slice (some ⟨g, o, none⟩) n cap, .slice (some ⟨g', o', none⟩) m cap'] 31)).alloc (.cells #[.slice none 0 0, .slice none 0 0, .int .i64 0, .int .i64 0] 33)) #[.slice (some ⟨g, o, none⟩) n cap, .slice (some ⟨g', o', none⟩) m cap'] #[.slice none 0 0, .slice none 0 0, .int .i64 0, .int .i64 0]) := T0
  have HI : Hid (TextsAt w (some ⟨g', o', none⟩) m I) := h'
  have HM : Hid (IsMark I z m k) := hk
  have hkm : k ≤ m := hk.1
  have r0 : decide (100 ≤ m) = false := by simp; omega
  have r1 : decide ((100 : Int) ≤ (m : Int)) = false := by simp; omega
  clear h h' hQ hokI hk hth hok hf hleg T0
  generalize postB n Q K 0 L = P at *
  have HRI : Hid (R = if P.2.2 = 0 then ⟨n, m + 1, P.1, insT I k z, 0, 0⟩ else ⟨0, 0, L, I, (P.2.1 : Int), P.2.2⟩) := hR
  clear hR
  obtain ⟨b0, b1⟩ : _ ∧ _ := ⟨HT0.out.box 0, HT0.out.box 1⟩
  simp at b0 b1
  go_enter Tryz.func23, Tryz.ntmps23
  go_wp2_with fail
  refine HIN.out.mono ?_
  rintro e w1 ⟨rfl, rfl⟩
  go_wp2_with fail
  refine HLG.out.mono ?_
  rintro e wl hcase
  rcases hcase with ⟨hz, a, c, b, d, rfl, hR2, hbl⟩ | ⟨hz, rfl, hbl⟩
  rotate_left
  · have T1 := HT0.out.next hbl
    have hal : Below wl.heap.size wl (wl.alloc (.cells #[.slice none 0 0, .slice none 0 0, .int .i64 (P.2.1 : Int), .int .i64 P.2.2] 33)) := (Below.refl _ _).alloc (Nat.le_refl _) _
    have T2 := T1.next hal
    have HRR : Hid (R = ⟨0, 0, L, I, (P.2.1 : Int), P.2.2⟩) := by show _ = _; rw [HRI.out, if_neg hz]
    obtain ⟨y0, y1, y2, y3, yf, yl⟩ := Y4.new wl (.slice none 0 0) (.slice none 0 0) (.int .i64 (P.2.1 : Int)) (.int .i64 P.2.2) 33
    have q0 : (P.2.2 != 0) = true := by simpa using hz
    obtain ⟨o0, o1, o2, o3⟩ : _ ∧ _ ∧ _ ∧ _ := ⟨T2.out 0, T2.out 1, T2.out 2, T2.out 3⟩
    have of := T2.ofr
    simp at o0 o1 o2 o3
    have HB9 : Hid (Below w.heap.size w _) := T2.bel
    have hTs := T1.size
    have n1 : w.heap.size + 1 ≠ wl.heap.size := by omega
    have n2 : wl.heap.size ≠ w.heap.size + 1 := by omega
    clear hbl T1 hal T2 HT0 HIN HLG hz HRI b0 b1
    generalize P.2.2 = p2 at *
    generalize P.2.1 = p1 at *
    go_wp2_with fail
    refine bodyPost_ret (v := .agg #[.slice none 0 0, .slice none 0 0, .int .i64 (p1 : Int), .int .i64 p2]) ?_ rfl ?_
    · simp [results, Tryz.results23, go_sem, o0, o1, o2, o3]
    · rw [HRR.out]
      exact BkOut.err ((((HB9.out.setCell s2 _).setCell s2 _).setCell s2 _).setCell s2 _)
  have hsz : (((w.alloc (.cells #[.slice (some ⟨g, o, none⟩) n cap, .slice (some ⟨g', o', none⟩) m cap'] 31)).alloc (.cells #[.slice none 0 0, .slice none 0 0, .int .i64 0, .int .i64 0] 33))).heap.size = w.heap.size + 2 := by simp
  rw [hsz] at hR2
  have T1 := HT0.out.next hbl
  have hal : Below wl.heap.size wl (wl.alloc (.cells #[.slice a n c, .slice b m d, .int .i64 0, .int .i64 0] 33)) := (Below.refl _ _).alloc (Nat.le_refl _) _
  have HRR : Hid (R = ⟨n, m + 1, P.1, insT I k z, 0, 0⟩) := by show _ = _; rw [HRI.out, if_pos hz]
  obtain ⟨W2, hW2⟩ : ∃ W, W = wl.alloc (.cells #[.slice a n c, .slice b m d, .int .i64 0, .int .i64 0] 33) := ⟨_, rfl⟩
  obtain ⟨Y, hY⟩ : ∃ Y, Y = wl.heap.size := ⟨_, rfl⟩
  have HY2 : Hid (Y4 W2 Y (.slice a n c) (.slice b m d) (.int .i64 0) (.int .i64 0)) := by rw [hW2, hY]; exact Y4.new _ _ _ _ _ _
  have HT2 : Hid (Bp w W2 #[.slice (some ⟨g, o, none⟩) n cap, .slice (some ⟨g', o', none⟩) m cap'] #[.slice none 0 0, .slice none 0 0, .int .i64 0, .int .i64 0]) := by rw [hW2]; exact T1.next hal
  have HR2 : Hid (W2.ownsRow w.heap.size 84 3 (.slice a n c) n (linesC P.1 n)) := own_low (B := w.heap.size + 2) (by omega) (by rw [hW2]; exact own_below hR2.r1 hal)
  have HA : Hid (w.heap.size + 2 ≤ Y ∧ W2.heap.size = Y + 1 ∧ ∀ j, a.map Addr.block = some j → w.heap.size + 2 ≤ j ∧ j < Y) := ⟨by rw [hY]; exact T1.size, by rw [hW2, hY]; simp, fun j e => by have := hR2.lt1 j e; rw [hY]; exact this⟩
  clear hbl T1 hal HT0 HIN HLG hz HRI hR2 b0 b1 hsz
  go_upto_region 6 with fail
  rw [← hW2, ← hY]
  clear hW2 hY
  obtain ⟨y0, y1, y2, y3, yf, yl⟩ := HY2.out
  obtain ⟨b0, b1⟩ : _ ∧ _ := ⟨HT2.out.box 0, HT2.out.box 1⟩
  simp at b0 b1
  go_wp2_with fail
  go_loop [8] (fun i => ∃ k' : Nat, i = .int .i64 (k' : Int) ∧ k' ≤ k) (fun i => k - (intOf i).toNat)
  case atStart => exact ⟨0, rfl, by omega⟩
  case round =>
    obtain ⟨k', rfl, hkk⟩ := hrel
    have more : ∀ (T : Prop), T → T := fun _ h => h
    by_cases hkm' : k' < m
    · have p0 : decide (k' < m) = true := by simpa using hkm'
      have p1 : decide ((k' : Int) < (m : Int)) = true := by simpa using hkm'
      rcases HI.out with h0 | ⟨e, f, he, hg, hc⟩
      · omega
      simp at he
      obtain ⟨rfl, rfl⟩ := he
      have g0 := (HT2.out.bel.cell (p := ⟨g', _, none⟩) hg).trans (hc k' hkm')
      clear hc
      by_cases hlt : k' < k
      · have hl : Op.bytesLess (I k').t.toList z.toList = true := HM.out.2.1 k' hlt
        generalize (I k').t = x at *
        go_wp2_with fail
        go_round
        case rel => exact ⟨k' + 1, by go_num, by omega⟩
        case measure => simp [intOf]; omega
      · obtain rfl : k' = k := by omega
        have hl : Op.bytesLess (I k').t.toList z.toList = false := HM.out.2.2 k' (Nat.le_refl _) hkm'
        generalize hx : (I k').t = x at *
        go_upto_region 11 with fail
        have hk0 : (0 : Int) ≤ (k' : Int) := by omega
        have hk1 : (k' : Int) ≤ (cap' : Int) := by omega
        have hk2 : (k' : Int) ≤ (m : Int) := by omega
        have hk3 : (m : Int) ≤ (cap' : Int) := by omega
        have hW1 : W2.heap.size = Y + 1 := HA.out.2.1
        have HP2 : Ps w W2 Y a n c P.1 (.slice b m d) #[.slice (some ⟨g, o, none⟩) n cap, .slice (some ⟨g', o', none⟩) m cap'] := ⟨HT2.out, HY2.out, HR2.out, HA.out.1, HA.out.2.2⟩
        have hal1 : Below W2.heap.size W2 (W2.alloc (.cells #[] 9)) := (Below.refl _ _).alloc (Nat.le_refl _) _
        have HP3 : Hid (Ps w (W2.alloc (.cells #[] 9)) Y a n c P.1 (.slice b m d) #[.slice (some ⟨g, o, none⟩) n cap, .slice (some ⟨g', o', none⟩) m cap']) := HP2.below hal1
        have HS1 : Hid (TextsAt (W2.alloc (.cells #[] 9)) (some ⟨g', o', none⟩) m I) := HI.out.below HP3.out.bp.bel
        have HO1 : Hid ((W2.alloc (.cells #[] 9)).ownsRow (Y + 1) 9 1 (.slice (some ⟨W2.heap.size, 0, none⟩) 0 0) 0 []) := own_new0 rfl (by omega)
        have hw2 : w.heap.size < W2.heap.size := by have := HA.out.1; omega
        have hw2' : Y + 1 ≤ W2.heap.size := by omega
        clear HP2 hal1 hW1
        go_wp2_with (at_builtin; refine wpList_append_own _ rfl (.tmp 43) (.tmp 47) 23 rfl (Y + 1) 9 i0 (.string ⟨#[]⟩) 1 16 Tryz.underlying23 hi hz0 hz1 hz2 rfl (by decide) (.slice (some ⟨W2.heap.size, 0, none⟩) 0 0) 0 ([]) rfl HO1.out ⟨g', o', none⟩ (k') (cap') (textsC I k') rfl (textsC_len I k') ?a1 ?a2 ?a3 ?a4 ?a5 ?_)
        case a1 => exact fun j u hj => by have := news_texts (HS1.out.less hkm) j u hj; first | exact this | (rw [add_off] at this; exact this)
        case a2 => exact ones_texts I k'
        case a3 => unfold maxLen; omega
        case a4 => omega
        case a5 => first | omega | (simp; omega)
        intro v3 w3 hown3 hg3 _
        obtain ⟨a3, c3, rfl⟩ := owns_slice hown3
        have P3 := HP3.out.grown hg3 (fun j e => (HO1.out.lt j e).1)
        have hal4 : Below w3.heap.size w3 (w3.alloc (.cells #[.string z] 9)) := (Below.refl _ _).alloc (Nat.le_refl _) _
        have HP4 : Hid (Ps w (w3.alloc (.cells #[.string z] 9)) Y a n c P.1 (.slice b m d) #[.slice (some ⟨g, o, none⟩) n cap, .slice (some ⟨g', o', none⟩) m cap']) := P3.below hal4
        have HO4 : Hid ((w3.alloc (.cells #[.string z] 9)).ownsRow (Y + 1) 9 1 (.slice a3 k' c3) k' (textsC I k')) := own_below hown3 hal4
        have HN4 : Hid (∀ (j : Nat) (u : Value), ([.string z] : List Value)[j]? = some u → (w3.alloc (.cells #[.string z] 9)).cell? ((⟨w3.heap.size, 0, none⟩ : Addr).add j) = some u) := fun j u hj => by rw [add_off, cnew' rfl, Nat.zero_add, ← Array.getElem?_toList]; exact hj
        have hw3 : Y + 1 ≤ w3.heap.size := P3.y4.lt
        obtain ⟨b0, b1⟩ : _ ∧ _ := ⟨P3.bp.box 0, P3.bp.box 1⟩
        simp at b0 b1
        have hw3' : w.heap.size < w3.heap.size := by have := P3.hY; omega
        clear hown3 hg3 P3 hal4 HP3 HS1 HO1
        go_wp2_with (at_builtin; refine wpList_append_own _ rfl (.tmp 49) (.tmp 51) 23 rfl (Y + 1) 9 i0 (.string ⟨#[]⟩) 1 16 Tryz.underlying23 hi hz0 hz1 hz2 rfl (by decide) (.slice a3 k' c3) k' (textsC I k') rfl HO4.out ⟨w3.heap.size, 0, none⟩ (1) (1) ([.string z]) rfl (rfl) ?b1 ?b2 ?b3 ?b4 ?b5 ?_)
        case b1 => exact fun j u hj => by have := HN4.out j u hj; first | exact this | (rw [add_off] at this; exact this) | (rw [add_off, Nat.zero_add] at this; exact this)
        case b2 => intro u hu; simp at hu; subst hu; rfl
        case b3 => unfold maxLen; omega
        case b4 => omega
        case b5 => first | omega | (simp; omega)
        intro v6 w6 hown6 hg6 _
        obtain ⟨a6, c6, rfl⟩ := owns_slice hown6
        have P6 := HP4.out.grown hg6 (fun j e => (HO4.out.lt j e).1)
        have HP6 : Hid (Ps w w6 Y a n c P.1 (.slice b m d) #[.slice (some ⟨g, o, none⟩) n cap, .slice (some ⟨g', o', none⟩) m cap']) := P6
        have HO6 : Hid (w6.ownsRow (Y + 1) 9 1 (.slice a6 (k' + 1) c6) (k' + 1) (textsC I k' ++ [.string z])) := hown6
        obtain ⟨o7, ho7⟩ : ∃ o7, o7 = if cap' = k' then o' else o' + k' := ⟨_, rfl⟩
        have HN6 : Hid (∀ j u, ((textsC I m).drop k')[j]? = some u → w6.cell? ((⟨g', o7, none⟩ : Addr).add j) = some u) := fun j u hj => by
          have hlt : k' + j < m := by
            rw [List.getElem?_drop] at hj
            have := (List.getElem?_eq_some_iff.1 hj).1
            rw [textsC_len] at this
            omega
          rw [List.getElem?_drop] at hj
          have := news_texts (HI.out.below P6.bp.bel) (k' + j) u hj
          rw [add_off] at this
          rw [add_off, ho7, if_neg (by omega), show o' + k' + j = o' + (k' + j) by omega]
          exact this
        obtain ⟨b0, b1⟩ : _ ∧ _ := ⟨P6.bp.box 0, P6.bp.box 1⟩
        simp at b0 b1
        obtain ⟨y0, y1, y2, y3, yf, yl⟩ := P6.y4
        have hw6 : Y + 1 ≤ w6.heap.size := P6.y4.lt
        clear hown6 hg6 P6 HP4 HO4 HN4
        by_cases hck : cap' = k'
        · exact absurd hck (by omega)
        · rw [if_neg hck] at ho7
          subst ho7
          have hck' : ¬ k' = cap' := fun e => hck e.symm
          go_wp2_with (at_builtin; refine wpList_append_own _ rfl (.tmp 53) (.tmp 57) 23 rfl (Y + 1) 9 i0 (.string ⟨#[]⟩) 1 16 Tryz.underlying23 hi hz0 hz1 hz2 rfl (by decide) (.slice a6 (k' + 1) c6) (k' + 1) (textsC I k' ++ [.string z]) rfl HO6.out ⟨g', o' + k', none⟩ (m - k') (cap' - k') ((textsC I m).drop k') rfl (by rw [List.length_drop, textsC_len]; omega) ?q1 ?q2 ?q3 ?q4 ?q5 ?_)
          case q1 => exact fun j u hj => by have := HN6.out j u hj; first | exact this | (rw [add_off] at this; exact this)
          case q2 => exact fun u hu => ones_texts I m u (List.mem_of_mem_drop hu)
          case q3 => unfold maxLen; omega
          case q4 => omega
          case q5 => exact hw6
          intro v8 w8 hown8 hg8 _
          obtain ⟨a9, c9, rfl⟩ := owns_slice hown8
          have P8 := HP6.out.grown hg8 (fun j e => (HO6.out.lt j e).1)
          have h1n : k' + 1 + (m - k') = m + 1 := by omega
          have hins : textsC (insT I k' z) (m + 1) = textsC I k' ++ .string z :: (textsC I m).drop k' := by rw [ins_texts I k' z m hkm, take_texts I k' m hkm]; simp
          rw [h1n, ← hins] at hown8
          have P9 := P8.set1 (.slice a9 (m + 1) c9)
          have HL9 : Hid ((w8.setCell ⟨Y, 1, none⟩ (.slice a9 (m + 1) c9)).ownsRow w.heap.size 84 3 (.slice a n c) n (linesC P.1 n)) := P9.row
          have HO9 : Hid ((w8.setCell ⟨Y, 1, none⟩ (.slice a9 (m + 1) c9)).ownsRow (Y + 1) 9 1 (.slice a9 (m + 1) c9) (m + 1) (textsC (insT I k' z) (m + 1))) := hown8.kept (row := some Y) (setGrown (World.grownBy.refl _ _)) (by
            rw [ownBlock_map]
            cases e : a9.map Addr.block with
            | none => exact Or.inl rfl
            | some j => exact Or.inr (by have := (hown8.lt j (by rw [ownBlock_map]; exact e)).1; simp; omega))
          have HB9 : Hid (Below w.heap.size w (w8.setCell ⟨Y, 1, none⟩ (.slice a9 (m + 1) c9))) := P9.bp.bel
          obtain ⟨o0, o1, o2, o3⟩ : _ ∧ _ ∧ _ ∧ _ := ⟨P9.bp.out 0, P9.bp.out 1, P9.bp.out 2, P9.bp.out 3⟩
          have of := P9.bp.ofr
          simp at o0 o1 o2 o3 of
          obtain ⟨y0, y1, y2, y3, yf, yl⟩ := P8.y4
          have hw9 : (w8.setCell ⟨Y, 1, none⟩ (.slice a9 (m + 1) c9)).heap.size = w8.heap.size := by simp
          have hYw : w.heap.size + 2 ≤ Y := P8.hY
          have hYn : Y ≠ w.heap.size + 1 := by omega
          have hYm : w.heap.size + 1 ≠ Y := by omega
          have h1n' : k' + 1 + (m - k') = m + 1 := h1n
          clear hown8 hg8 P8 P9 hins HP6 HO6 HN6
          rw [h1n] at *
          go_wp2_with fail
          refine bodyPost_ret (v := .agg #[.slice a n c, .slice a9 (m + 1) c9, .int .i64 0, .int .i64 0]) ?_ rfl ?_
          · simp [results, Tryz.results23, go_sem, o0, o1, o2, o3]
          · have l1 : ∀ j, a.map Addr.block = some j → w.heap.size + 2 ≤ j ∧ j < Y := HA.out.2.2
            have l2 : ∀ j, a9.map Addr.block = some j → Y + 1 ≤ j ∧ j < w8.heap.size := fun j e => by have := HO9.out.lt j (by rw [ownBlock_map]; exact e); rwa [hw9] at this
            have q1 : ∀ j, a.map Addr.block = some j → j ≠ w.heap.size + 1 := fun j e => by have := (l1 j e).1; omega
            have q2 : ∀ j, a9.map Addr.block = some j → j ≠ w.heap.size + 1 := fun j e => by have := (l2 j e).1; omega
            rw [HRR.out]
            exact ⟨a, c, a9, c9, rfl, ((((own_linesR HL9.out).set4 q1).set4 q1).set4 q1).set4 q1, ((((own_textsR HO9.out).set4 q2).set4 q2).set4 q2).set4 q2, fun j e => by have := l1 j e; simp; omega, fun j e => by have := l2 j e; simp; omega, fun j e e' => by have := l1 j e; have := l2 j e'; omega, (((HB9.out.setCell s2 _).setCell s2 _).setCell s2 _).setCell s2 _⟩
    · obtain rfl : k' = k := by omega
      have p0 : decide (k' < m) = false := by simpa using hkm'
      have p1 : decide ((k' : Int) < (m : Int)) = false := by simpa using hkm'
      go_upto_region 11 with fail
      have hk0 : (0 : Int) ≤ (k' : Int) := by omega
      have hk1 : (k' : Int) ≤ (cap' : Int) := by omega
      have hk2 : (k' : Int) ≤ (m : Int) := by omega
      have hk3 : (m : Int) ≤ (cap' : Int) := by omega
      have hW1 : W2.heap.size = Y + 1 := HA.out.2.1
      have HP2 : Ps w W2 Y a n c P.1 (.slice b m d) #[.slice (some ⟨g, o, none⟩) n cap, .slice (some ⟨g', o', none⟩) m cap'] := ⟨HT2.out, HY2.out, HR2.out, HA.out.1, HA.out.2.2⟩
      have hal1 : Below W2.heap.size W2 (W2.alloc (.cells #[] 9)) := (Below.refl _ _).alloc (Nat.le_refl _) _
      have HP3 : Hid (Ps w (W2.alloc (.cells #[] 9)) Y a n c P.1 (.slice b m d) #[.slice (some ⟨g, o, none⟩) n cap, .slice (some ⟨g', o', none⟩) m cap']) := HP2.below hal1
      have HS1 : Hid (TextsAt (W2.alloc (.cells #[] 9)) (some ⟨g', o', none⟩) m I) := HI.out.below HP3.out.bp.bel
      have HO1 : Hid ((W2.alloc (.cells #[] 9)).ownsRow (Y + 1) 9 1 (.slice (some ⟨W2.heap.size, 0, none⟩) 0 0) 0 []) := own_new0 rfl (by omega)
      have hw2 : w.heap.size < W2.heap.size := by have := HA.out.1; omega
      have hw2' : Y + 1 ≤ W2.heap.size := by omega
      clear HP2 hal1 hW1
      go_wp2_with (at_builtin; refine wpList_append_own _ rfl (.tmp 43) (.tmp 47) 23 rfl (Y + 1) 9 i0 (.string ⟨#[]⟩) 1 16 Tryz.underlying23 hi hz0 hz1 hz2 rfl (by decide) (.slice (some ⟨W2.heap.size, 0, none⟩) 0 0) 0 ([]) rfl HO1.out ⟨g', o', none⟩ (k') (cap') (textsC I k') rfl (textsC_len I k') ?a1 ?a2 ?a3 ?a4 ?a5 ?_)
      case a1 => exact fun j u hj => by have := news_texts (HS1.out.less hkm) j u hj; first | exact this | (rw [add_off] at this; exact this)
      case a2 => exact ones_texts I k'
      case a3 => unfold maxLen; omega
      case a4 => omega
      case a5 => first | omega | (simp; omega)
      intro v3 w3 hown3 hg3 _
      obtain ⟨a3, c3, rfl⟩ := owns_slice hown3
      have P3 := HP3.out.grown hg3 (fun j e => (HO1.out.lt j e).1)
      have hal4 : Below w3.heap.size w3 (w3.alloc (.cells #[.string z] 9)) := (Below.refl _ _).alloc (Nat.le_refl _) _
      have HP4 : Hid (Ps w (w3.alloc (.cells #[.string z] 9)) Y a n c P.1 (.slice b m d) #[.slice (some ⟨g, o, none⟩) n cap, .slice (some ⟨g', o', none⟩) m cap']) := P3.below hal4
      have HO4 : Hid ((w3.alloc (.cells #[.string z] 9)).ownsRow (Y + 1) 9 1 (.slice a3 k' c3) k' (textsC I k')) := own_below hown3 hal4
      have HN4 : Hid (∀ (j : Nat) (u : Value), ([.string z] : List Value)[j]? = some u → (w3.alloc (.cells #[.string z] 9)).cell? ((⟨w3.heap.size, 0, none⟩ : Addr).add j) = some u) := fun j u hj => by rw [add_off, cnew' rfl, Nat.zero_add, ← Array.getElem?_toList]; exact hj
      have hw3 : Y + 1 ≤ w3.heap.size := P3.y4.lt
      obtain ⟨b0, b1⟩ : _ ∧ _ := ⟨P3.bp.box 0, P3.bp.box 1⟩
      simp at b0 b1
      have hw3' : w.heap.size < w3.heap.size := by have := P3.hY; omega
      clear hown3 hg3 P3 hal4 HP3 HS1 HO1
      go_wp2_with (at_builtin; refine wpList_append_own _ rfl (.tmp 49) (.tmp 51) 23 rfl (Y + 1) 9 i0 (.string ⟨#[]⟩) 1 16 Tryz.underlying23 hi hz0 hz1 hz2 rfl (by decide) (.slice a3 k' c3) k' (textsC I k') rfl HO4.out ⟨w3.heap.size, 0, none⟩ (1) (1) ([.string z]) rfl (rfl) ?b1 ?b2 ?b3 ?b4 ?b5 ?_)
      case b1 => exact fun j u hj => by have := HN4.out j u hj; first | exact this | (rw [add_off] at this; exact this) | (rw [add_off, Nat.zero_add] at this; exact this)
      case b2 => intro u hu; simp at hu; subst hu; rfl
      case b3 => unfold maxLen; omega
      case b4 => omega
      case b5 => first | omega | (simp; omega)
      intro v6 w6 hown6 hg6 _
      obtain ⟨a6, c6, rfl⟩ := owns_slice hown6
      have P6 := HP4.out.grown hg6 (fun j e => (HO4.out.lt j e).1)
      have HP6 : Hid (Ps w w6 Y a n c P.1 (.slice b m d) #[.slice (some ⟨g, o, none⟩) n cap, .slice (some ⟨g', o', none⟩) m cap']) := P6
      have HO6 : Hid (w6.ownsRow (Y + 1) 9 1 (.slice a6 (k' + 1) c6) (k' + 1) (textsC I k' ++ [.string z])) := hown6
      obtain ⟨o7, ho7⟩ : ∃ o7, o7 = if cap' = k' then o' else o' + k' := ⟨_, rfl⟩
      have HN6 : Hid (∀ j u, ((textsC I m).drop k')[j]? = some u → w6.cell? ((⟨g', o7, none⟩ : Addr).add j) = some u) := fun j u hj => by
        have hlt : k' + j < m := by
          rw [List.getElem?_drop] at hj
          have := (List.getElem?_eq_some_iff.1 hj).1
          rw [textsC_len] at this
          omega
        rw [List.getElem?_drop] at hj
        have := news_texts (HI.out.below P6.bp.bel) (k' + j) u hj
        rw [add_off] at this
        rw [add_off, ho7, if_neg (by omega), show o' + k' + j = o' + (k' + j) by omega]
        exact this
      obtain ⟨b0, b1⟩ : _ ∧ _ := ⟨P6.bp.box 0, P6.bp.box 1⟩
      simp at b0 b1
      obtain ⟨y0, y1, y2, y3, yf, yl⟩ := P6.y4
      have hw6 : Y + 1 ≤ w6.heap.size := P6.y4.lt
      clear hown6 hg6 P6 HP4 HO4 HN4
      by_cases hck : cap' = k'
      · rw [if_pos hck] at ho7
        obtain rfl := ho7.symm
        obtain rfl : m = k' := by omega
        obtain rfl := hck.symm
        go_wp2_with (at_builtin; refine wpList_append_own _ rfl (.tmp 53) (.tmp 57) 23 rfl (Y + 1) 9 i0 (.string ⟨#[]⟩) 1 16 Tryz.underlying23 hi hz0 hz1 hz2 rfl (by decide) (.slice a6 (m + 1) c6) (m + 1) (textsC I m ++ [.string z]) rfl HO6.out ⟨g', o', none⟩ (0) (0) ([]) rfl (rfl) ?p1 ?p2 ?p3 ?p4 ?p5 ?_)
        case p3 => unfold maxLen; omega
        case p4 => omega
        intro v8 w8 hown8 hg8 _
        obtain ⟨a9, c9, rfl⟩ := owns_slice hown8
        have P8 := HP6.out.grown hg8 (fun j e => (HO6.out.lt j e).1)
        have hins : textsC (insT I m z) (m + 1) = textsC I m ++ [.string z] := by rw [ins_texts I m z m hkm, take_texts I m m hkm, List.drop_eq_nil_of_le (by rw [textsC_len]; omega), List.append_nil]
        rw [← hins] at hown8
        have P9 := P8.set1 (.slice a9 (m + 1) c9)
        have HL9 : Hid ((w8.setCell ⟨Y, 1, none⟩ (.slice a9 (m + 1) c9)).ownsRow w.heap.size 84 3 (.slice a n c) n (linesC P.1 n)) := P9.row
        have HO9 : Hid ((w8.setCell ⟨Y, 1, none⟩ (.slice a9 (m + 1) c9)).ownsRow (Y + 1) 9 1 (.slice a9 (m + 1) c9) (m + 1) (textsC (insT I m z) (m + 1))) := hown8.kept (row := some Y) (setGrown (World.grownBy.refl _ _)) (by
          rw [ownBlock_map]
          cases e : a9.map Addr.block with
          | none => exact Or.inl rfl
          | some j => exact Or.inr (by have := (hown8.lt j (by rw [ownBlock_map]; exact e)).1; simp; omega))
        have HB9 : Hid (Below w.heap.size w (w8.setCell ⟨Y, 1, none⟩ (.slice a9 (m + 1) c9))) := P9.bp.bel
        obtain ⟨o0, o1, o2, o3⟩ : _ ∧ _ ∧ _ ∧ _ := ⟨P9.bp.out 0, P9.bp.out 1, P9.bp.out 2, P9.bp.out 3⟩
        have of := P9.bp.ofr
        simp at o0 o1 o2 o3 of
        obtain ⟨y0, y1, y2, y3, yf, yl⟩ := P8.y4
        have hw9 : (w8.setCell ⟨Y, 1, none⟩ (.slice a9 (m + 1) c9)).heap.size = w8.heap.size := by simp
        have hYw : w.heap.size + 2 ≤ Y := P8.hY
        have hYn : Y ≠ w.heap.size + 1 := by omega
        have hYm : w.heap.size + 1 ≠ Y := by omega
        clear hown8 hg8 P8 P9 hins HP6 HO6 HN6
        go_wp2_with fail
        refine bodyPost_ret (v := .agg #[.slice a n c, .slice a9 (m + 1) c9, .int .i64 0, .int .i64 0]) ?_ rfl ?_
        · simp [results, Tryz.results23, go_sem, o0, o1, o2, o3]
        · have l1 : ∀ j, a.map Addr.block = some j → w.heap.size + 2 ≤ j ∧ j < Y := HA.out.2.2
          have l2 : ∀ j, a9.map Addr.block = some j → Y + 1 ≤ j ∧ j < w8.heap.size := fun j e => by have := HO9.out.lt j (by rw [ownBlock_map]; exact e); rwa [hw9] at this
          have q1 : ∀ j, a.map Addr.block = some j → j ≠ w.heap.size + 1 := fun j e => by have := (l1 j e).1; omega
          have q2 : ∀ j, a9.map Addr.block = some j → j ≠ w.heap.size + 1 := fun j e => by have := (l2 j e).1; omega
          rw [HRR.out]
          exact ⟨a, c, a9, c9, rfl, ((((own_linesR HL9.out).set4 q1).set4 q1).set4 q1).set4 q1, ((((own_textsR HO9.out).set4 q2).set4 q2).set4 q2).set4 q2, fun j e => by have := l1 j e; simp; omega, fun j e => by have := l2 j e; simp; omega, fun j e e' => by have := l1 j e; have := l2 j e'; omega, (((HB9.out.setCell s2 _).setCell s2 _).setCell s2 _).setCell s2 _⟩
      · rw [if_neg hck] at ho7
        subst ho7
        have hck' : ¬ k' = cap' := fun e => hck e.symm
        go_wp2_with (at_builtin; refine wpList_append_own _ rfl (.tmp 53) (.tmp 57) 23 rfl (Y + 1) 9 i0 (.string ⟨#[]⟩) 1 16 Tryz.underlying23 hi hz0 hz1 hz2 rfl (by decide) (.slice a6 (k' + 1) c6) (k' + 1) (textsC I k' ++ [.string z]) rfl HO6.out ⟨g', o' + k', none⟩ (m - k') (cap' - k') ((textsC I m).drop k') rfl (by rw [List.length_drop, textsC_len]; omega) ?q1 ?q2 ?q3 ?q4 ?q5 ?_)
        case q1 => exact fun j u hj => by have := HN6.out j u hj; first | exact this | (rw [add_off] at this; exact this)
        case q2 => exact fun u hu => ones_texts I m u (List.mem_of_mem_drop hu)
        case q3 => unfold maxLen; omega
        case q4 => omega
        case q5 => exact hw6
        intro v8 w8 hown8 hg8 _
        obtain ⟨a9, c9, rfl⟩ := owns_slice hown8
        have P8 := HP6.out.grown hg8 (fun j e => (HO6.out.lt j e).1)
        have h1n : k' + 1 + (m - k') = m + 1 := by omega
        have hins : textsC (insT I k' z) (m + 1) = textsC I k' ++ .string z :: (textsC I m).drop k' := by rw [ins_texts I k' z m hkm, take_texts I k' m hkm]; simp
        rw [h1n, ← hins] at hown8
        have P9 := P8.set1 (.slice a9 (m + 1) c9)
        have HL9 : Hid ((w8.setCell ⟨Y, 1, none⟩ (.slice a9 (m + 1) c9)).ownsRow w.heap.size 84 3 (.slice a n c) n (linesC P.1 n)) := P9.row
        have HO9 : Hid ((w8.setCell ⟨Y, 1, none⟩ (.slice a9 (m + 1) c9)).ownsRow (Y + 1) 9 1 (.slice a9 (m + 1) c9) (m + 1) (textsC (insT I k' z) (m + 1))) := hown8.kept (row := some Y) (setGrown (World.grownBy.refl _ _)) (by
          rw [ownBlock_map]
          cases e : a9.map Addr.block with
          | none => exact Or.inl rfl
          | some j => exact Or.inr (by have := (hown8.lt j (by rw [ownBlock_map]; exact e)).1; simp; omega))
        have HB9 : Hid (Below w.heap.size w (w8.setCell ⟨Y, 1, none⟩ (.slice a9 (m + 1) c9))) := P9.bp.bel
        obtain ⟨o0, o1, o2, o3⟩ : _ ∧ _ ∧ _ ∧ _ := ⟨P9.bp.out 0, P9.bp.out 1, P9.bp.out 2, P9.bp.out 3⟩
        have of := P9.bp.ofr
        simp at o0 o1 o2 o3 of
        obtain ⟨y0, y1, y2, y3, yf, yl⟩ := P8.y4
        have hw9 : (w8.setCell ⟨Y, 1, none⟩ (.slice a9 (m + 1) c9)).heap.size = w8.heap.size := by simp
        have hYw : w.heap.size + 2 ≤ Y := P8.hY
        have hYn : Y ≠ w.heap.size + 1 := by omega
        have hYm : w.heap.size + 1 ≠ Y := by omega
        have h1n' : k' + 1 + (m - k') = m + 1 := h1n
        clear hown8 hg8 P8 P9 hins HP6 HO6 HN6
        rw [h1n] at *
        go_wp2_with fail
        refine bodyPost_ret (v := .agg #[.slice a n c, .slice a9 (m + 1) c9, .int .i64 0, .int .i64 0]) ?_ rfl ?_
        · simp [results, Tryz.results23, go_sem, o0, o1, o2, o3]
        · have l1 : ∀ j, a.map Addr.block = some j → w.heap.size + 2 ≤ j ∧ j < Y := HA.out.2.2
          have l2 : ∀ j, a9.map Addr.block = some j → Y + 1 ≤ j ∧ j < w8.heap.size := fun j e => by have := HO9.out.lt j (by rw [ownBlock_map]; exact e); rwa [hw9] at this
          have q1 : ∀ j, a.map Addr.block = some j → j ≠ w.heap.size + 1 := fun j e => by have := (l1 j e).1; omega
          have q2 : ∀ j, a9.map Addr.block = some j → j ≠ w.heap.size + 1 := fun j e => by have := (l2 j e).1; omega
          rw [HRR.out]
          exact ⟨a, c, a9, c9, rfl, ((((own_linesR HL9.out).set4 q1).set4 q1).set4 q1).set4 q1, ((((own_textsR HO9.out).set4 q2).set4 q2).set4 q2).set4 q2, fun j e => by have := l1 j e; simp; omega, fun j e => by have := l2 j e; simp; omega, fun j e e' => by have := l1 j e; have := l2 j e'; omega, (((HB9.out.setCell s2 _).setCell s2 _).setCell s2 _).setCell s2 _⟩
end Go.Proofs.YtepkmbfedblhdaaGreatDoor
namespace Go.Proofs.YtepkmbfedblhdaaGreatDoor
open Go.RowKit
open Go.Proofs.YtepkmbfedblhdaaGreatDoor.Draw

set_option maxRecDepth 100000 in
set_option maxHeartbeats 16000000 in
theorem spec_bp_size (g o g' o' n m cap cap' : Nat) (L : Nat → Ln) (I : Nat → Tx) (z : ByteArray) (a : Option Addr) (K kc : Nat) (w : World) (hs : 20000 < z.size ∨ 400 < K) :
    Calls Tryz.prog 6 #[.agg #[.slice (some ⟨g, o, none⟩) n cap, .slice (some ⟨g', o', none⟩) m cap'], .string z, .slice a K kc] w (BkOut w 0 0 L I 0 2) := by
  have s2 : w.heap.size ≤ w.heap.size + 1 := by omega
  by_cases h1 : 20000 < z.size
  · have q0 : decide (20000 < z.size) = true := by simpa using h1
    have q1 : decide ((20000 : Int) < (z.size : Int)) = true := by simp; omega
    clear hs
    go_enter Tryz.func6, Tryz.ntmps6
    go_wp2_with fail
    refine bodyPost_ret (v := .agg #[.slice none 0 0, .slice none 0 0, .int .i64 0, .int .i64 2]) ?_ rfl ?_
    · simp [results, Tryz.results6, go_sem]
    · exact BkOut.err (by first | exact ((Below.refl _ _).alloc (Nat.le_refl _) _).alloc (by simp) _ | exact (((((((Below.refl _ _).alloc (Nat.le_refl _) _).alloc (by simp) _).setCell s2 _).setCell s2 _).setCell s2 _).setCell s2 _))
  · have h2 : 400 < K := by omega
    have q0 : decide (20000 < z.size) = false := by simpa using h1
    have q1 : decide ((20000 : Int) < (z.size : Int)) = false := by simp; omega
    have r0 : decide (400 < K) = true := by simpa using h2
    have r1 : decide ((400 : Int) < (K : Int)) = true := by simp; omega
    clear hs
    go_enter Tryz.func6, Tryz.ntmps6
    go_wp2_with fail
    refine bodyPost_ret (v := .agg #[.slice none 0 0, .slice none 0 0, .int .i64 0, .int .i64 2]) ?_ rfl ?_
    · simp [results, Tryz.results6, go_sem]
    · exact BkOut.err (by first | exact ((Below.refl _ _).alloc (Nat.le_refl _) _).alloc (by simp) _ | exact (((((((Below.refl _ _).alloc (Nat.le_refl _) _).alloc (by simp) _).setCell s2 _).setCell s2 _).setCell s2 _).setCell s2 _))
set_option maxRecDepth 100000 in
set_option maxHeartbeats 16000000 in
theorem spec_bookPost (g o g' o' n m cap cap' : Nat) (L : Nat → Ln) (I : Nat → Tx) (hn : n ≤ 1048576) (hm : m ≤ 1048576) (hcap : m ≤ cap') (hcap' : cap' ≤ maxLen) (hf : ∀ i, i < n → (L i).fits) (hfi : ∀ i, i < m → (I i).fits) (z : ByteArray) (hz : z.size ≤ maxLen) (a : Option Addr) (K kc : Nat) (Q : Nat → Lg) (hK : K ≤ 1048576) (hfit : ∀ i, i < K → (Q i).fits) (k : Nat) (hk : idsB m I = true → IsMark I z m k) (w : World) (h : LinesAt w (some ⟨g, o, none⟩) n L) (h' : TextsAt w (some ⟨g', o', none⟩) m I) (hQ : LegsAt w a K Q) :
    Calls Tryz.prog 6 #[.agg #[.slice (some ⟨g, o, none⟩) n cap, .slice (some ⟨g', o', none⟩) m cap'], .string z, .slice a K kc] w (BkOut w (postF n m K L I z k Q).N (postF n m K L I z k Q).K (postF n m K L I z k Q).L (postF n m K L I z k Q).I (postF n m K L I z k Q).p (postF n m K L I z k Q).cd) := by
  by_cases hs : 20000 < z.size ∨ 400 < K
  · have hv : postF n m K L I z k Q = ⟨0, 0, L, I, 0, 2⟩ := by unfold postF; rw [if_pos hs]
    rw [hv]
    exact spec_bp_size g o g' o' n m cap cap' L I z a K kc w hs
  have T0 := Bp.now w #[.slice (some ⟨g, o, none⟩) n cap, .slice (some ⟨g', o', none⟩) m cap'] #[.slice none 0 0, .slice none 0 0, .int .i64 0, .int .i64 0] 31 33
  have s2 : w.heap.size ≤ w.heap.size + 1 := by omega
  have q0 : decide (20000 < z.size) = false := by simp; omega
  have q1 : decide ((20000 : Int) < (z.size : Int)) = false := by simp; omega
  have r0 : decide (400 < K) = false := by simp; omega
  have r1 : decide ((400 : Int) < (K : Int)) = false := by simp; omega
  have HBR := spec_bookRight (some ⟨g, o, none⟩) (some ⟨g', o', none⟩) n m cap cap' L I hn hm hf hfi ((w.alloc (.cells #[.slice (some ⟨g, o, none⟩) n cap, .slice (some ⟨g', o', none⟩) m cap'] 31)).alloc (.cells #[.slice none 0 0, .slice none 0 0, .int .i64 0, .int .i64 0] 33)) (h.below T0.bel) (h'.below T0.bel)
  have HSN : Hid (∀ W, Calls Tryz.prog 21 #[.string z] W fun e w' => e = .returned (.bool (nameB z)) ∧ w' = W) := fun W => spec_name z W hz
  have HLR : Hid (∀ W, Below w.heap.size w W → Calls Tryz.prog 22 #[.slice a K kc] W fun e w' => e = .returned (.bool (legsB K Q)) ∧ Below W.heap.size W w') := fun W hW => spec_legs a K kc Q hK hfit W (hQ.below hW)
  have HT0 : Hid (Bp w ((w.alloc (.cells #[.slice (some ⟨g, o, none⟩) n cap, .slice (some ⟨g', o', none⟩) m cap'] 31)).alloc (.cells #[.slice none 0 0, .slice none 0 0, .int .i64 0, .int .i64 0] 33)) #[.slice (some ⟨g, o, none⟩) n cap, .slice (some ⟨g', o', none⟩) m cap'] #[.slice none 0 0, .slice none 0 0, .int .i64 0, .int .i64 0]) := T0
  have hno : (bookB n m L I && (nameB z && legsB K Q)) = false → Hid ((postF n m K L I z k Q) = ⟨0, 0, L, I, 0, 1⟩) := fun e => by show _ = _; unfold postF; rw [if_neg hs, if_pos e]
  have hyes : (bookB n m L I && (nameB z && legsB K Q)) = true → ∀ W, Below w.heap.size w W → Calls Tryz.prog 23 #[.agg #[.slice (some ⟨g, o, none⟩) n cap, .slice (some ⟨g', o', none⟩) m cap'], .string z, .slice a K kc] W (BkOut W (postF n m K L I z k Q).N (postF n m K L I z k Q).K (postF n m K L I z k Q).L (postF n m K L I z k Q).I (postF n m K L I z k Q).p (postF n m K L I z k Q).cd) := fun e W hW => by
    have hv : (postF n m K L I z k Q) = if thereB I z m k = true then ⟨0, 0, L, I, 0, 7⟩ else if 100 ≤ m then ⟨0, 0, L, I, 0, 16⟩ else if (postB n Q K 0 L).2.2 = 0 then ⟨n, m + 1, (postB n Q K 0 L).1, insT I k z, 0, 0⟩ else ⟨0, 0, L, I, ((postB n Q K 0 L).2.1 : Int), (postB n Q K 0 L).2.2⟩ := by
      unfold postF; rw [if_neg hs, if_neg (by rw [e]; decide)]
    simp only [Bool.and_eq_true] at e
    have hbk := e.1
    unfold bookB at hbk
    simp only [Bool.and_eq_true] at hbk
    obtain ⟨hn60, hok⟩ := (linesB_iff n L).1 hbk.1.1
    obtain ⟨hm100, hokI⟩ := (idsB_iff m I).1 hbk.1.2
    obtain ⟨hK20, hleg⟩ := (legsB_iff K Q).1 e.2.2
    cases hth : thereB I z m k with
    | true =>
      rw [hv, if_pos hth]
      exact spec_post_no g o g' o' n m cap cap' L I hm100 hokI z k (hk hbk.1.2) a K kc W (h'.below hW) 7 (Or.inl ⟨hth, rfl⟩)
    | false =>
      rw [if_neg (by rw [hth]; decide)] at hv
      by_cases h100 : 100 ≤ m
      · rw [hv, if_pos h100]
        exact spec_post_no g o g' o' n m cap cap' L I hm100 hokI z k (hk hbk.1.2) a K kc W (h'.below hW) 16 (Or.inr ⟨hth, h100, rfl⟩)
      · rw [if_neg h100] at hv
        exact spec_post_legs g o g' o' n m cap cap' L I hn60 (by omega) hcap hcap' hok hf hokI z k (hk hbk.1.2) hth a K kc Q hK20 hleg W (h.below hW) (h'.below hW) (hQ.below hW) (postF n m K L I z k Q) hv
  clear T0 h h' hQ hs hk hf hfi hfit
  generalize (postF n m K L I z k Q) = R at *
  obtain ⟨b0, b1⟩ : _ ∧ _ := ⟨HT0.out.box 0, HT0.out.box 1⟩
  simp at b0 b1
  cases hbk : bookB n m L I with
  | false =>
    have HV := hno (by rw [hbk]; rfl)
    rw [hbk] at HBR
    have HBR : Hid (Calls Tryz.prog 20 _ _ _) := HBR
    clear hno hyes hbk
    go_enter Tryz.func6, Tryz.ntmps6
    go_wp2_with fail
    refine HBR.out.mono ?_
    rintro e w1 ⟨rfl, hb⟩
    have HT1 : Hid (Bp w w1 #[.slice (some ⟨g, o, none⟩) n cap, .slice (some ⟨g', o', none⟩) m cap'] #[.slice none 0 0, .slice none 0 0, .int .i64 0, .int .i64 0]) := HT0.out.next hb
    clear hb HT0 HBR b0 b1
    obtain ⟨o0, o1, o2, o3⟩ : _ ∧ _ ∧ _ ∧ _ := ⟨HT1.out.out 0, HT1.out.out 1, HT1.out.out 2, HT1.out.out 3⟩
    have of := HT1.out.ofr
    simp at o0 o1 o2 o3
    have HB9 : Hid (Below w.heap.size w _) := HT1.out.bel
    go_wp2_with fail
    refine bodyPost_ret (v := .agg #[.slice none 0 0, .slice none 0 0, .int .i64 0, .int .i64 1]) ?_ rfl ?_
    · simp [results, Tryz.results6, go_sem, o0, o1, o2, o3]
    · rw [HV.out]
      exact BkOut.err ((((HB9.out.setCell s2 _).setCell s2 _).setCell s2 _).setCell s2 _)
  | true =>
    rw [hbk] at HBR
    have HBR : Hid (Calls Tryz.prog 20 _ _ _) := HBR
    cases hnm : nameB z with
    | false =>
      have HV := hno (by rw [hbk, hnm]; rfl)
      rw [hnm] at HSN
      clear hno hyes hbk hnm
      go_enter Tryz.func6, Tryz.ntmps6
      go_wp2_with fail
      refine HBR.out.mono ?_
      rintro e w1 ⟨rfl, hb⟩
      have HT1 : Hid (Bp w w1 #[.slice (some ⟨g, o, none⟩) n cap, .slice (some ⟨g', o', none⟩) m cap'] #[.slice none 0 0, .slice none 0 0, .int .i64 0, .int .i64 0]) := HT0.out.next hb
      clear hb HT0 HBR b0 b1
      go_wp2_with fail
      refine (HSN.out _).mono ?_
      rintro e w2 ⟨rfl, rfl⟩
      obtain ⟨o0, o1, o2, o3⟩ : _ ∧ _ ∧ _ ∧ _ := ⟨HT1.out.out 0, HT1.out.out 1, HT1.out.out 2, HT1.out.out 3⟩
      have of := HT1.out.ofr
      simp at o0 o1 o2 o3
      have HB9 : Hid (Below w.heap.size w _) := HT1.out.bel
      go_wp2_with fail
      refine bodyPost_ret (v := .agg #[.slice none 0 0, .slice none 0 0, .int .i64 0, .int .i64 1]) ?_ rfl ?_
      · simp [results, Tryz.results6, go_sem, o0, o1, o2, o3]
      · rw [HV.out]
        exact BkOut.err ((((HB9.out.setCell s2 _).setCell s2 _).setCell s2 _).setCell s2 _)
    | true =>
      rw [hnm] at HSN
      cases hlg : legsB K Q with
      | false =>
        have HV := hno (by rw [hbk, hnm, hlg]; rfl)
        rw [hlg] at HLR
        clear hno hyes hbk hnm hlg
        go_enter Tryz.func6, Tryz.ntmps6
        go_wp2_with fail
        refine HBR.out.mono ?_
        rintro e w1 ⟨rfl, hb⟩
        have HT1 : Hid (Bp w w1 #[.slice (some ⟨g, o, none⟩) n cap, .slice (some ⟨g', o', none⟩) m cap'] #[.slice none 0 0, .slice none 0 0, .int .i64 0, .int .i64 0]) := HT0.out.next hb
        clear hb HT0 HBR b0 b1
        go_wp2_with fail
        refine (HSN.out _).mono ?_
        rintro e w2 ⟨rfl, rfl⟩
        go_wp2_with fail
        refine (HLR.out _ HT1.out.bel).mono ?_
        rintro e w3 ⟨rfl, hb⟩
        have HT3 : Hid (Bp w w3 #[.slice (some ⟨g, o, none⟩) n cap, .slice (some ⟨g', o', none⟩) m cap'] #[.slice none 0 0, .slice none 0 0, .int .i64 0, .int .i64 0]) := HT1.out.next hb
        clear hb HT1
        obtain ⟨o0, o1, o2, o3⟩ : _ ∧ _ ∧ _ ∧ _ := ⟨HT3.out.out 0, HT3.out.out 1, HT3.out.out 2, HT3.out.out 3⟩
        have of := HT3.out.ofr
        simp at o0 o1 o2 o3
        have HB9 : Hid (Below w.heap.size w _) := HT3.out.bel
        go_wp2_with fail
        refine bodyPost_ret (v := .agg #[.slice none 0 0, .slice none 0 0, .int .i64 0, .int .i64 1]) ?_ rfl ?_
        · simp [results, Tryz.results6, go_sem, o0, o1, o2, o3]
        · rw [HV.out]
          exact BkOut.err ((((HB9.out.setCell s2 _).setCell s2 _).setCell s2 _).setCell s2 _)
      | true =>
        have HOP : Hid (∀ W, Below w.heap.size w W → Calls Tryz.prog 23 #[.agg #[.slice (some ⟨g, o, none⟩) n cap, .slice (some ⟨g', o', none⟩) m cap'], .string z, .slice a K kc] W (BkOut W R.N R.K R.L R.I R.p R.cd)) := hyes (by rw [hbk, hnm, hlg]; rfl)
        rw [hlg] at HLR
        clear hno hyes hbk hnm hlg
        obtain ⟨zN, zK, zL, zI, zp, zc⟩ := R
        simp only at HOP ⊢
        go_enter Tryz.func6, Tryz.ntmps6
        go_wp2_with fail
        refine HBR.out.mono ?_
        rintro e w1 ⟨rfl, hb⟩
        have HT1 : Hid (Bp w w1 #[.slice (some ⟨g, o, none⟩) n cap, .slice (some ⟨g', o', none⟩) m cap'] #[.slice none 0 0, .slice none 0 0, .int .i64 0, .int .i64 0]) := HT0.out.next hb
        clear hb HT0 HBR b0 b1
        go_wp2_with fail
        refine (HSN.out _).mono ?_
        rintro e w2 ⟨rfl, rfl⟩
        go_wp2_with fail
        refine (HLR.out _ HT1.out.bel).mono ?_
        rintro e w3 ⟨rfl, hb⟩
        have HT3 : Hid (Bp w w3 #[.slice (some ⟨g, o, none⟩) n cap, .slice (some ⟨g', o', none⟩) m cap'] #[.slice none 0 0, .slice none 0 0, .int .i64 0, .int .i64 0]) := HT1.out.next hb
        clear hb HT1
        obtain ⟨b0, b1⟩ : _ ∧ _ := ⟨HT3.out.box 0, HT3.out.box 1⟩
        simp at b0 b1
        go_wp2_with fail
        refine (HOP.out _ HT3.out.bel).mono ?_
        rintro e w4 ⟨sa, c, b, d, rfl, oa, ob, la, lb, nab, hb⟩
        have T4 := HT3.out.next hb
        obtain ⟨o0, o1, o2, o3⟩ : _ ∧ _ ∧ _ ∧ _ := ⟨T4.out 0, T4.out 1, T4.out 2, T4.out 3⟩
        have of := T4.ofr
        simp at o0 o1 o2 o3
        have hs2 := HT3.out.size
        have HB9 : Hid (Below w.heap.size w w4) := T4.bel
        have q1 : ∀ j, sa.map Addr.block = some j → j ≠ w.heap.size + 1 := fun j e => by have := (la j e).1; omega
        have q2 : ∀ j, b.map Addr.block = some j → j ≠ w.heap.size + 1 := fun j e => by have := (lb j e).1; omega
        have HP : Hid (BkOut w zN zK zL zI zp zc (.returned (.agg #[.slice sa zN c, .slice b zK d, .int .i64 zp, .int .i64 zc])) ((((w4.setCell ⟨w.heap.size + 1, 0, none⟩ (.slice sa zN c)).setCell ⟨w.heap.size + 1, 1, none⟩ (.slice b zK d)).setCell ⟨w.heap.size + 1, 2, none⟩ (.int .i64 zp)).setCell ⟨w.heap.size + 1, 3, none⟩ (.int .i64 zc))) :=
          ⟨sa, c, b, d, rfl, (((oa.set4 q1).set4 q1).set4 q1).set4 q1, (((ob.set4 q2).set4 q2).set4 q2).set4 q2, fun j e => by have := la j e; simp; omega, fun j e => by have := lb j e; simp; omega, nab, (((HB9.out.setCell s2 _).setCell s2 _).setCell s2 _).setCell s2 _⟩
        clear hb T4 HT3 oa ob la lb nab q1 q2 HOP b0 b1
        go_wp2_with fail
        refine bodyPost_ret (v := .agg #[.slice sa zN c, .slice b zK d, .int .i64 zp, .int .i64 zc]) ?_ rfl HP.out
        simp [results, Tryz.results6, go_sem, o0, o1, o2, o3]
end Go.Proofs.YtepkmbfedblhdaaGreatDoor
namespace Go.Proofs.YtepkmbfedblhdaaGreatDoor
open Go.RowKit Go.Lib
open Go.Proofs.YtepkmbfedblhdaaGreatDoor.Draw

theorem impl_bookPost (g o g' o' n m cap cap' : Nat) (L : Nat → Ln) (I : Nat → Tx) (hn : n ≤ 1048576) (hm : m ≤ 1048576) (hf : ∀ i, i < n → (L i).fits) (hfi : ∀ i, i < m → (I i).fits) (z : ByteArray) (hz : z.size ≤ maxLen) (a : Option Addr) (K kc : Nat) (Q : Nat → Lg) (hK : K ≤ 1048576) (hfit : ∀ i, i < K → (Q i).fits) (k : Nat) (hk : idsB m I = true → IsMark I z m k) (w : World) (hL : Lay w) (h : LinesAt w (some ⟨g, o, none⟩) n L) (h' : TextsAt w (some ⟨g', o', none⟩) m I) (hQ : LegsAt w a K Q) :
    Calls Tryz.prog 9 #[.agg #[.slice (some ⟨g, o, none⟩) n cap, .slice (some ⟨g', o', none⟩) m cap'], .string z, .slice a K kc] w (BkOut w (postF n m K L I z k Q).N (postF n m K L I z k Q).K (postF n m K L I z k Q).L (postF n m K L I z k Q).I (postF n m K L I z k Q).p (postF n m K L I z k Q).cd) := by
  by_cases hs : 20000 < z.size ∨ 400 < K
  · have hv : postF n m K L I z k Q = ⟨0, 0, L, I, 0, 2⟩ := by unfold postF; rw [if_pos hs]
    rw [hv]
    exact bp_size g o g' o' n m cap cap' L I z a K kc w hs
  · cases hyes : (nameB z && legsB K Q) with
    | true => exact bp_rest g o g' o' n m cap cap' L I hn hm hf hfi z hz a K kc Q hK hfit k hk w hL h h' hQ hs hyes
    | false =>
      have hv : postF n m K L I z k Q = ⟨0, 0, L, I, 0, 1⟩ := by unfold postF; rw [if_neg hs, hyes, Bool.and_false, if_pos rfl]
      rw [hv]
      exact bp_form g o g' o' n m cap cap' L I z hz a K kc Q hK hfit w hQ hs hyes
end Go.Proofs.YtepkmbfedblhdaaGreatDoor
namespace Go.Proofs.YtepkmbfedblhdaaGreatDoor
open Go.RowKit
open Go.Proofs.YtepkmbfedblhdaaGreatDoor.Draw

/-- What marked lines' cells read. -/
def mkLn (k0 : Nat) (j : Nat) : Value := if j % 3 = 0 then .string (mtx (k0 + j)) else if j % 3 = 1 then .string (mtx (k0 + j)) else .int .i64 ((k0 + j : Nat) : Int)
theorem mkLn_at (k0 i : Nat) : mkLn k0 (i * 3) = .string (mtx (k0 + i * 3)) ∧ mkLn k0 (i * 3 + 1) = .string (mtx (k0 + i * 3 + 1)) ∧ mkLn k0 (i * 3 + 2) = .int .i64 ((k0 + i * 3 + 2 : Nat) : Int) := by
  refine ⟨?_, ?_, ?_⟩
  · rw [mkLn, if_pos (by omega)]
  · rw [mkLn, if_neg (by omega), if_pos (by omega)]; rfl
  · rw [mkLn, if_neg (by omega), if_neg (by omega)]; rfl
theorem mkLn_fun {F G G0 : Nat → Value} {I : Nat} (h0 : G0 = fun j => if j < I * 3 then G j else F j) {v0 v1 v2 : Value} (e0 : G (I * 3) = v0) (e1 : G (I * 3 + 1) = v1) (e2 : G (I * 3 + 2) = v2) {j : Nat} :
    (if j = I * 3 + 2 then v2 else if j = I * 3 + 1 then v1 else if j = I * 3 then v0 else G0 j) = if j < (I + 1) * 3 then G j else F j := by
  rw [h0]
  by_cases c2 : j = I * 3 + 2
  · rw [if_pos c2, if_pos (by omega), c2, e2]
  rw [if_neg c2]
  by_cases c1 : j = I * 3 + 1
  · rw [if_pos c1, if_pos (by omega), c1, e1]
  rw [if_neg c1]
  by_cases c0 : j = I * 3
  · rw [if_pos c0, if_pos (by omega), c0, e0]
  rw [if_neg c0]
  show (if j < I * 3 then G j else F j) = _
  by_cases c : j < I * 3
  · rw [if_pos c, if_pos (by omega)]
  · rw [if_neg c, if_neg (by omega)]
set_option maxRecDepth 100000 in
set_option maxHeartbeats 8000000 in
theorem mark_lines (a : Option Addr) (n cap : Nat) (F : Nat → Value) (hn : n ≤ 1048576) (k0 : Nat) (hk1 : 1 ≤ k0) (hk2 : k0 ≤ 549755813888) (w : World) (h : OwnR w a n 3 F) :
    Calls Tryz.prog 36 #[.slice a n cap, .int .i64 (k0 : Int)] w fun e w' => e = .returned (.int .i64 ((k0 + n * 3 : Nat) : Int)) ∧ OwnR w' a n 3 (mkLn k0) ∧ w.grownBy w' (a.map Addr.block) := by
  rcases h with h0 | ⟨g, rfl, hO⟩
  · subst h0
    go_enter Tryz.func36, Tryz.ntmps36
    go_wp2_with fail
    refine wp_loop_rounds 1 ?_
    rw [rounds_succ]
    go_wp2
    go_ret
    exact ⟨ret_int (by omega), Or.inl rfl, World.grownBy.refl _ _⟩
  have HO : Hid (Own w g (n * 3) F) := hO
  clear hO
  go_enter Tryz.func36, Tryz.ntmps36
  go_wp2_with fail
  go_loopw [1, 5] (fun x i wr => ∃ I K : Nat, x = .int .i64 (K : Int) ∧ i = .int .i64 (I : Int) ∧ I ≤ n ∧ K = k0 + I * 3 ∧ Hid (Own wr g (n * 3) (fun j => if j < I * 3 then mkLn k0 j else F j)) ∧ Hid (w.grownBy wr (some g))) (fun _ i _ => n - (intOf i).toNat)
  case atStart => exact ⟨0, k0, rfl, rfl, by omega, by omega, HO.out.congr (fun j _ => by rw [if_neg (by omega)]), World.grownBy.refl _ _⟩
  case round =>
    obtain ⟨I, K, rfl, rfl, hI, hK, HOr, HG⟩ := hrel
    by_cases hin : I < n
    · have p0 : decide (I < n) = true := by simpa using hin
      have p1 : decide ((I : Int) < (n : Int)) = true := by simpa using hin
      have HE : Hid (mkLn k0 (I * 3) = .string (mtx (K)) ∧ mkLn k0 (I * 3 + 1) = .string (mtx (K + 1)) ∧ mkLn k0 (I * 3 + 2) = .int .i64 ((K + 2 : Nat) : Int)) := by rw [hK]; exact mkLn_at k0 I
      have hKb : K ≤ 1099511627000 := by omega
      have hK1 : 1 ≤ K := by omega
      have HK : Hid (K = k0 + I * 3) := hK
      clear hK
      obtain ⟨G0, hG0⟩ : ∃ G, G = (fun j => if j < I * 3 then mkLn k0 j else F j) := ⟨_, rfl⟩
      have HGE : Hid (G0 = (fun j => if j < I * 3 then mkLn k0 j else F j)) := hG0
      rw [← hG0] at HOr
      clear hG0
      obtain ⟨T0, hT0⟩ : ∃ t, t = mtx (K) := ⟨_, rfl⟩
      obtain ⟨T1, hT1⟩ : ∃ t, t = mtx (K + 1) := ⟨_, rfl⟩
      have M0 := fun z hz W => mark_text' z (K) hz (by omega) (by omega) W
      have M1 := fun z hz W => mark_text' z (K + 1) hz (by omega) (by omega) W
      rw [← hT0, ← hT1] at HE
      rw [← hT0] at M0
      rw [← hT1] at M1
      clear hT0 hT1
      have M0 : Hid (∀ z, z = ((K : Nat) : Int) → ∀ W, Calls Tryz.prog 38 #[.int .i64 z] W fun e w' => e = .returned (.string T0) ∧ Below W.heap.size W w') := M0
      have M1 : Hid (∀ z, z = ((K + 1 : Nat) : Int) → ∀ W, Calls Tryz.prog 38 #[.int .i64 z] W fun e w' => e = .returned (.string T1) ∧ Below W.heap.size W w') := M1
      go_wp2_with fail
      refine (M0.out _ (by omega) _).mono ?_
      rintro e w0 ⟨rfl, hb0⟩
      have Ho0 := Own.below (HOr.out) hb0
      have Hq0 := below_grown (HG.out) hb0
      clear hb0
      obtain ⟨y0, hc0⟩ : ∃ y, w0.cell? ⟨g, I * 3, none⟩ = some y := ⟨_, (Ho0).2.1 (I * 3) (by omega)⟩
      have hf0 := (Ho0).2.2 (I * 3)
      have Hs0 : Own (w0.setCell ⟨g, I * 3, none⟩ (.string T0)) g (n * 3) _ := Own.set (Ho0) (i := I * 3) (by omega) (.string T0)
      have Hg0 : w.grownBy (w0.setCell ⟨g, I * 3, none⟩ (.string T0)) (some g) := setGrown (Hq0)
      have HHo0 : Hid _ := Ho0
      have HHq0 : Hid _ := Hq0
      clear Ho0 Hq0
      have HHs0 : Hid _ := Hs0
      clear Hs0
      have HHg0 : Hid _ := Hg0
      clear Hg0
      go_wp2_with fail
      refine (M1.out _ (by omega) _).mono ?_
      rintro e w1 ⟨rfl, hb1⟩
      have Ho1 := Own.below (HHs0.out) hb1
      have Hq1 := below_grown (HHg0.out) hb1
      clear hb1
      obtain ⟨y1, hc1⟩ : ∃ y, w1.cell? ⟨g, I * 3 + 1, none⟩ = some y := ⟨_, (Ho1).2.1 (I * 3 + 1) (by omega)⟩
      have hf1 := (Ho1).2.2 (I * 3 + 1)
      obtain ⟨y2, hc2⟩ : ∃ y, w1.cell? ⟨g, I * 3 + 2, none⟩ = some y := ⟨_, (Ho1).2.1 (I * 3 + 2) (by omega)⟩
      have hf2 := (Ho1).2.2 (I * 3 + 2)
      have Hs1 : Own (w1.setCell ⟨g, I * 3 + 1, none⟩ (.string T1)) g (n * 3) _ := Own.set (Ho1) (i := I * 3 + 1) (by omega) (.string T1)
      have Hg1 : w.grownBy (w1.setCell ⟨g, I * 3 + 1, none⟩ (.string T1)) (some g) := setGrown (Hq1)
      have Hs2 : Own ((w1.setCell ⟨g, I * 3 + 1, none⟩ (.string T1)).setCell ⟨g, I * 3 + 2, none⟩ (.int .i64 ((K : Int) + 1 + 1))) g (n * 3) _ := Own.set (Hs1) (i := I * 3 + 2) (by omega) (.int .i64 ((K : Int) + 1 + 1))
      have Hg2 : w.grownBy ((w1.setCell ⟨g, I * 3 + 1, none⟩ (.string T1)).setCell ⟨g, I * 3 + 2, none⟩ (.int .i64 ((K : Int) + 1 + 1))) (some g) := setGrown (Hg1)
      have HHo1 : Hid _ := Ho1
      have HHq1 : Hid _ := Hq1
      clear Ho1 Hq1
      have HOz : Hid (Own ((w1.setCell ⟨g, I * 3 + 1, none⟩ (.string T1)).setCell ⟨g, I * 3 + 2, none⟩ (.int .i64 ((K : Int) + 1 + 1))) g (n * 3) (fun j => if j < (I + 1) * 3 then mkLn k0 j else F j)) := Own.congr Hs2 (fun j _ => mkLn_fun (by rw [HGE.out]) (HE.out.1) (HE.out.2.1) ((HE.out.2.2).trans (by first | rfl | (congr 2))))
      have HGz : Hid (w.grownBy ((w1.setCell ⟨g, I * 3 + 1, none⟩ (.string T1)).setCell ⟨g, I * 3 + 2, none⟩ (.int .i64 ((K : Int) + 1 + 1))) (some g)) := Hg2
      clear Hs1 Hg1 Hs2 Hg2 HE HGE
      go_wp2_with fail
      go_roundw
      case rel => exact ⟨I + 1, K + 3, by go_num, by go_num, by omega, by have := HK.out; omega, HOz, HGz⟩
      case measure => simp [intOf]; omega
    · have p0 : decide (I < n) = false := by simpa using hin
      have p1 : decide ((I : Int) < (n : Int)) = false := by simpa using hin
      obtain rfl : I = n := by omega
      go_wp2_with fail
      go_ret
      exact ⟨ret_int (by omega), Or.inr ⟨g, rfl, HOr.out.congr (fun j hj => by rw [if_pos hj])⟩, HG.out⟩
set_option maxRecDepth 100000 in
set_option maxHeartbeats 8000000 in
theorem held_lines (a : Option Addr) (n cap : Nat) (hn : n ≤ 1048576) (k0 : Nat) (hk1 : 1 ≤ k0) (hk2 : k0 ≤ 549755813888) (w : World) (h : OwnR w a n 3 (mkLn k0)) :
    Calls Tryz.prog 64 #[.slice a n cap, .int .i64 (k0 : Int)] w fun e w' => e = .returned (.int .i64 ((k0 + n * 3 : Nat) : Int)) ∧ Below w.heap.size w w' := by
  rcases h with h0 | ⟨g, rfl, hO⟩
  · subst h0
    go_enter Tryz.func64, Tryz.ntmps64
    go_wp2_with fail
    refine wp_loop_rounds 1 ?_
    rw [rounds_succ]
    go_wp2
    go_ret
    exact ⟨ret_int (by omega), Below.refl _ _⟩
  have HO : Hid (Own w g (n * 3) (mkLn k0)) := hO
  clear hO
  go_enter Tryz.func64, Tryz.ntmps64
  go_wp2_with fail
  go_loopw [1, 5] (fun x i wr => ∃ I K : Nat, x = .int .i64 (K : Int) ∧ i = .int .i64 (I : Int) ∧ I ≤ n ∧ K = k0 + I * 3 ∧ Hid (Below w.heap.size w wr)) (fun _ i _ => n - (intOf i).toNat)
  case atStart => exact ⟨0, k0, rfl, rfl, by omega, by omega, Below.refl _ _⟩
  case round =>
    obtain ⟨I, K, rfl, rfl, hI, hK, HB⟩ := hrel
    by_cases hin : I < n
    · have p0 : decide (I < n) = true := by simpa using hin
      have p1 : decide ((I : Int) < (n : Int)) = true := by simpa using hin
      have HE : Hid (mkLn k0 (I * 3) = .string (mtx (K)) ∧ mkLn k0 (I * 3 + 1) = .string (mtx (K + 1)) ∧ mkLn k0 (I * 3 + 2) = .int .i64 ((K + 2 : Nat) : Int)) := by rw [hK]; exact mkLn_at k0 I
      have hKb : K ≤ 1099511627000 := by omega
      have hK1 : 1 ≤ K := by omega
      have HK : Hid (K = k0 + I * 3) := hK
      clear hK
      obtain ⟨T0, hT0⟩ : ∃ t, t = mtx (K) := ⟨_, rfl⟩
      obtain ⟨T1, hT1⟩ : ∃ t, t = mtx (K + 1) := ⟨_, rfl⟩
      have M0 := fun z hz W => mark_text' z (K) hz (by omega) (by omega) W
      have M1 := fun z hz W => mark_text' z (K + 1) hz (by omega) (by omega) W
      rw [← hT0, ← hT1] at HE
      rw [← hT0] at M0
      rw [← hT1] at M1
      clear hT0 hT1
      have M0 : Hid (∀ z, z = ((K : Nat) : Int) → ∀ W, Calls Tryz.prog 38 #[.int .i64 z] W fun e w' => e = .returned (.string T0) ∧ Below W.heap.size W w') := M0
      have M1 : Hid (∀ z, z = ((K + 1 : Nat) : Int) → ∀ W, Calls Tryz.prog 38 #[.int .i64 z] W fun e w' => e = .returned (.string T1) ∧ Below W.heap.size W w') := M1
      have hxx : ∀ x : List UInt8, (x == x) = true := fun x => by simp
      have hx4 : ∀ x : Int, (x != x) = false := fun x => by simp
      have hgw : g < w.heap.size := HO.out.1
      have hO := HO.out.below HB.out
      have b0 : wr.cell? ⟨g, I * 3, none⟩ = some (.string T0) := (hO.2.1 _ (by omega)).trans (by rw [HE.out.1])
      have b1 : wr.cell? ⟨g, I * 3 + 1, none⟩ = some (.string T1) := (hO.2.1 _ (by omega)).trans (by rw [HE.out.2.1])
      have b2 : wr.cell? ⟨g, I * 3 + 2, none⟩ = some (.int .i64 ((K : Int) + 1 + 1)) := (hO.2.1 _ (by omega)).trans (by rw [HE.out.2.2]; congr 2)
      have hgr : g < wr.heap.size := hO.1
      clear hO
      go_upto_region 4 with fail
      go_region_held3 (fun W => W.cell? ⟨g, I * 3, none⟩ = some (.string T0)) (go_keep) (first | (go_at_call 38; refine (M0.out _ (by omega) _).mono ?_; rintro e v0 ⟨rfl, hb⟩; have e0 : v0.cell? ⟨g, I * 3, none⟩ = some (.string T0) := (hb.cell (p := ⟨g, I * 3, none⟩) hgr).trans b0))
      have HB0 : Hid (Below w.heap.size w v0) := HB.out.drew.trans (hb.mono HB.out.size)
      have b1 := (hb.cell (p := ⟨g, I * 3 + 1, none⟩) hgr).trans b1
      have b2 := (hb.cell (p := ⟨g, I * 3 + 2, none⟩) hgr).trans b2
      have hgr : g < v0.heap.size := Nat.lt_of_lt_of_le hgr hb.size
      clear hb e0
      go_upto_region 7 with fail
      go_region_held3 (fun W => W.cell? ⟨g, I * 3 + 1, none⟩ = some (.string T1)) (go_keep) (first | (go_at_call 38; refine (M1.out _ (by omega) _).mono ?_; rintro e v1 ⟨rfl, hb⟩; have e0 : v1.cell? ⟨g, I * 3 + 1, none⟩ = some (.string T1) := (hb.cell (p := ⟨g, I * 3 + 1, none⟩) hgr).trans b1))
      have HB1 : Hid (Below w.heap.size w v1) := HB0.out.drew.trans (hb.mono HB0.out.size)
      have b2 := (hb.cell (p := ⟨g, I * 3 + 2, none⟩) hgr).trans b2
      have hgr : g < v1.heap.size := Nat.lt_of_lt_of_le hgr hb.size
      clear hb e0
      go_wp2_with fail
      go_roundw
      case rel => exact ⟨I + 1, K + 3, by go_num, by go_num, by omega, by have := HK.out; omega, HB1⟩
      case measure => simp [intOf]; omega
    · have p0 : decide (I < n) = false := by simpa using hin
      have p1 : decide ((I : Int) < (n : Int)) = false := by simpa using hin
      obtain rfl : I = n := by omega
      go_wp2_with fail
      go_ret
      exact ⟨ret_int (by omega), HB.out⟩
theorem OwnR.lines {w : World} {a : Option Addr} {n : Nat} {L : Nat → Ln} (h : OwnR w a n 3 (lineF L)) : LinesAt w a n L := by
  rcases h with h | ⟨g, rfl, hO⟩
  · exact Or.inl h
  · exact hO.lines
end Go.Proofs.YtepkmbfedblhdaaGreatDoor
namespace Go.Proofs.YtepkmbfedblhdaaGreatDoor
open Go.RowKit
open Go.Proofs.YtepkmbfedblhdaaGreatDoor.Draw

/-- Two blocks may have turned. -/
structure Kb (w w' : World) (ra rb : Option Nat) : Prop where
  os : w'.os = w.os
  tape : w'.tape = w.tape
  output : w'.output = w.output
  size : w.heap.size ≤ w'.heap.size
  block : ∀ k, k < w.heap.size → some k ≠ ra → some k ≠ rb → w'.heap[k]? = w.heap[k]?
theorem Kb.of {w w1 w2 : World} {ra rb : Option Nat} (h : w.grownBy w1 ra) (h' : w1.grownBy w2 rb) : Kb w w2 ra rb :=
  ⟨h'.os.trans h.os, h'.tape.trans h.tape, h'.output.trans h.output, Nat.le_trans h.size h'.size, fun k hk h1 h2 => (h'.block k (Nat.lt_of_lt_of_le hk h.size) h2).trans (h.block k hk h1)⟩
theorem Kb.next {w w1 w2 : World} {ra rb : Option Nat} (h : Kb w w1 ra rb) (hb : Below w1.heap.size w1 w2) : Kb w w2 ra rb :=
  ⟨hb.os.trans h.os, hb.tape.trans h.tape, hb.output.trans h.output, Nat.le_trans h.size hb.size, fun k hk h1 h2 => (hb.block k (Nat.lt_of_lt_of_le hk h.size)).trans (h.block k hk h1 h2)⟩
theorem Kb.prev {w w1 w2 : World} {ra rb : Option Nat} (hb : Below w.heap.size w w1) (h : Kb w1 w2 ra rb) : Kb w w2 ra rb :=
  ⟨h.os.trans hb.os, h.tape.trans hb.tape, h.output.trans hb.output, Nat.le_trans hb.size h.size, fun k hk h1 h2 => (h.block k (Nat.lt_of_lt_of_le hk hb.size) h1 h2).trans (hb.block k hk)⟩
theorem Kb.own {w w' : World} {ra rb : Option Nat} {a : Option Addr} {n c : Nat} {F : Nat → Value} (h : Kb w w' ra rb) (ho : OwnR w a n c F) (h1 : ∀ k, a.map Addr.block = some k → some k ≠ ra) (h2 : ∀ k, a.map Addr.block = some k → some k ≠ rb) : OwnR w' a n c F := by
  rcases ho with e | ⟨g, rfl, ho⟩
  · exact Or.inl e
  · have hb := h.block g ho.1 (h1 g rfl) (h2 g rfl)
    exact Or.inr ⟨g, rfl, Nat.lt_of_lt_of_le ho.1 h.size, fun j hj => (World.cell?_of_block (a := ⟨g, j, none⟩) hb).trans (ho.2.1 j hj), fun j => (World.frozen?_of_block (a := ⟨g, j, none⟩) hb).trans (ho.2.2 j)⟩
theorem Kb.below {w0 w w' : World} {ra rb : Option Nat} {B : Nat} (hb : Below B w0 w) (h : Kb w w' ra rb) (hB : B ≤ w.heap.size) (h1 : ∀ k, ra = some k → B ≤ k) (h2 : ∀ k, rb = some k → B ≤ k) : Below B w0 w' :=
  ⟨h.os.trans hb.os, h.tape.trans hb.tape, h.output.trans hb.output, Nat.le_trans hb.size h.size, fun k hk => (h.block k (by omega) (fun e => by have := h1 k e.symm; omega) (fun e => by have := h2 k e.symm; omega)).trans (hb.block k hk)⟩
theorem Kb.cell {w w' : World} {ra rb : Option Nat} (h : Kb w w' ra rb) {b j : Nat} (hb : b < w.heap.size) (h1 : some b ≠ ra) (h2 : some b ≠ rb) : w'.cell? ⟨b, j, none⟩ = w.cell? ⟨b, j, none⟩ := World.cell?_of_block (a := ⟨b, j, none⟩) (h.block b hb h1 h2)
/-- A block of four cells. -/
structure D4 (W : World) (b : Nat) (v0 v1 v2 v3 : Value) : Prop where
  c0 : W.cell? ⟨b, 0, none⟩ = some v0
  c1 : W.cell? ⟨b, 1, none⟩ = some v1
  c2 : W.cell? ⟨b, 2, none⟩ = some v2
  c3 : W.cell? ⟨b, 3, none⟩ = some v3
  fz : ∀ j, W.frozen? ⟨b, j, none⟩ = false
  lt : b < W.heap.size
theorem D4.new (w : World) (v0 v1 v2 v3 : Value) (t : TypeId) : D4 (w.alloc (.cells #[v0, v1, v2, v3] t)) w.heap.size v0 v1 v2 v3 := ⟨by simp, by simp, by simp, by simp, fun j => fnew' rfl j, by simp⟩
theorem D4.below {W W' : World} {b : Nat} {v0 v1 v2 v3 : Value} (h : D4 W b v0 v1 v2 v3) (hb : Below W.heap.size W W') : D4 W' b v0 v1 v2 v3 :=
  ⟨(hb.cell (p := ⟨b, 0, none⟩) h.lt).trans h.c0, (hb.cell (p := ⟨b, 1, none⟩) h.lt).trans h.c1, (hb.cell (p := ⟨b, 2, none⟩) h.lt).trans h.c2, (hb.cell (p := ⟨b, 3, none⟩) h.lt).trans h.c3, fun j => (hb.frozen (p := ⟨b, j, none⟩) h.lt).trans (h.fz j), Nat.lt_of_lt_of_le h.lt hb.size⟩
theorem D4.kb {W W' : World} {b : Nat} {v0 v1 v2 v3 : Value} {ra rb : Option Nat} (h : D4 W b v0 v1 v2 v3) (hk : Kb W W' ra rb) (h1 : some b ≠ ra) (h2 : some b ≠ rb) : D4 W' b v0 v1 v2 v3 :=
  ⟨(hk.cell h.lt h1 h2).trans h.c0, (hk.cell h.lt h1 h2).trans h.c1, (hk.cell h.lt h1 h2).trans h.c2, (hk.cell h.lt h1 h2).trans h.c3, fun j => (World.frozen?_of_block (a := ⟨b, j, none⟩) (hk.block b h.lt h1 h2)).trans (h.fz j), Nat.lt_of_lt_of_le h.lt hk.size⟩
theorem D4.put {W : World} {b : Nat} {v0 v1 v2 v3 : Value} (h : D4 W b v0 v1 v2 v3) (u0 u1 u2 u3 : Value) : D4 ((((W.setCell ⟨b, 0, none⟩ u0).setCell ⟨b, 1, none⟩ u1).setCell ⟨b, 2, none⟩ u2).setCell ⟨b, 3, none⟩ u3) b u0 u1 u2 u3 := by
  have a0 := h.c0
  have a1 : (W.setCell ⟨b, 0, none⟩ u0).cell? ⟨b, 1, none⟩ = some v1 := by rw [World.cell?_setCell_other _ _ _ _ (by simp)]; exact h.c1
  have a2 : ((W.setCell ⟨b, 0, none⟩ u0).setCell ⟨b, 1, none⟩ u1).cell? ⟨b, 2, none⟩ = some v2 := by rw [World.cell?_setCell_other _ _ _ _ (by simp), World.cell?_setCell_other _ _ _ _ (by simp)]; exact h.c2
  have a3 : (((W.setCell ⟨b, 0, none⟩ u0).setCell ⟨b, 1, none⟩ u1).setCell ⟨b, 2, none⟩ u2).cell? ⟨b, 3, none⟩ = some v3 := by rw [World.cell?_setCell_other _ _ _ _ (by simp), World.cell?_setCell_other _ _ _ _ (by simp), World.cell?_setCell_other _ _ _ _ (by simp)]; exact h.c3
  refine ⟨?_, ?_, ?_, ?_, fun j => by simp only [World.frozen?_setCell]; exact h.fz j, by simpa using h.lt⟩
  · rw [World.cell?_setCell_other _ _ _ _ (by simp), World.cell?_setCell_other _ _ _ _ (by simp), World.cell?_setCell_other _ _ _ _ (by simp)]; simp [go_sem, a0]
  · rw [World.cell?_setCell_other _ _ _ _ (by simp), World.cell?_setCell_other _ _ _ _ (by simp)]; simp [go_sem, a1]
  · rw [World.cell?_setCell_other _ _ _ _ (by simp)]; simp [go_sem, a2]
  · simp [go_sem, a3]
theorem set4_grown (W : World) (b : Nat) (u0 u1 u2 u3 : Value) : W.grownBy ((((W.setCell ⟨b, 0, none⟩ u0).setCell ⟨b, 1, none⟩ u1).setCell ⟨b, 2, none⟩ u2).setCell ⟨b, 3, none⟩ u3) (some b) := setGrown (setGrown (setGrown (setGrown (World.grownBy.refl _ _))))
end Go.Proofs.YtepkmbfedblhdaaGreatDoor
namespace Go.Proofs.YtepkmbfedblhdaaGreatDoor
open Go.RowKit
open Go.Proofs.YtepkmbfedblhdaaGreatDoor.Draw

set_option maxRecDepth 100000 in
set_option maxHeartbeats 8000000 in
theorem eq_bookOut (a a' b b' : Option Addr) (n m c1 c2 c3 c4 : Nat) (L : Nat → Ln) (I : Nat → Tx) (p cd : Int) (hn : n ≤ 1048576) (hm : m ≤ 1048576) (w : World) (h : OwnR w a n 3 (lineF L)) (h' : OwnR w a' n 3 (lineF L)) (hi : OwnR w b m 1 (textF I)) (hi' : OwnR w b' m 1 (textF I)) :
    Calls Tryz.prog 10 #[.agg #[.slice a n c1, .slice b m c2, .int .i64 p, .int .i64 cd], .agg #[.slice a' n c3, .slice b' m c4, .int .i64 p, .int .i64 cd]] w fun e w' => e = .returned (.bool true) ∧ Below w.heap.size w w' := by
  have T0 := two_now w #[.slice a n c1, .slice b m c2, .int .i64 p, .int .i64 cd] #[.slice a' n c3, .slice b' m c4, .int .i64 p, .int .i64 cd] 33 33
  have HT0 : Hid (Both w ((w.alloc (.cells #[.slice a n c1, .slice b m c2, .int .i64 p, .int .i64 cd] 33)).alloc (.cells #[.slice a' n c3, .slice b' m c4, .int .i64 p, .int .i64 cd] 33)) #[.slice a n c1, .slice b m c2, .int .i64 p, .int .i64 cd] #[.slice a' n c3, .slice b' m c4, .int .i64 p, .int .i64 cd]) := T0
  have HEQ : Hid (Calls Tryz.prog 11 _ _ _) := eq_book a a' b b' n m c1 c2 c3 c4 L I hn hm _ (h.below T0.bel).lines (h'.below T0.bel).lines (hi.below T0.bel).texts (hi'.below T0.bel).texts
  have hx : ∀ z : Int, (z != z) = false := fun z => by simp
  clear h h' hi hi' T0
  go_enter Tryz.func10, Tryz.ntmps10
  go_wp2_with fail
  refine HEQ.out.mono ?_
  rintro e w1 ⟨rfl, hb⟩
  have T1 := HT0.out.next hb
  have b2 := T1.box 2
  have b3 := T1.box 3
  have r2 := T1.res 2
  have r3 := T1.res 3
  simp at b2 b3 r2 r3
  have HB1 : Hid (Below w.heap.size w w1) := T1.bel
  clear T1 hb HT0 HEQ
  go_wp2_with fail
  go_ret
  exact ⟨rfl, HB1.out⟩
end Go.Proofs.YtepkmbfedblhdaaGreatDoor
namespace Go.Proofs.YtepkmbfedblhdaaGreatDoor
open Go.RowKit
open Go.Proofs.YtepkmbfedblhdaaGreatDoor.Draw

set_option maxRecDepth 100000 in
set_option maxHeartbeats 8000000 in
theorem mark_book (a : Option Addr) (n c : Nat) (b : Option Addr) (m d : Nat) (F G : Nat → Value) (hn : n ≤ 1048576) (hm : m ≤ 1048576) (w : World) (h : OwnR w a n 3 F) (h' : OwnR w b m 1 G) (la : ∀ k, a.map Addr.block = some k → k < w.heap.size) (lb : ∀ k, b.map Addr.block = some k → k < w.heap.size) (hne : ∀ k, a.map Addr.block = some k → b.map Addr.block = some k → False) :
    Calls Tryz.prog 13 #[.agg #[.slice a n c, .slice b m d], .int .i64 1] w fun e w' => e = .returned (.int .i64 ((1 + n * 3 + m : Nat) : Int)) ∧ OwnR w' a n 3 (mkLn 1) ∧ OwnR w' b m 1 (mkT (1 + n * 3)) ∧ Kb w w' (a.map Addr.block) (b.map Addr.block) := by
  have hal : Below w.heap.size w (w.alloc (.cells #[.slice a n c, .slice b m d] 31)) := (Below.refl _ _).alloc (Nat.le_refl _) _
  have HAL : Hid (Below w.heap.size w (w.alloc (.cells #[.slice a n c, .slice b m d] 31))) := hal
  have HA0 : Hid (OwnR (w.alloc (.cells #[.slice a n c, .slice b m d] 31)) a n 3 F) := h.below hal
  have HB0 : Hid (OwnR (w.alloc (.cells #[.slice a n c, .slice b m d] 31)) b m 1 G) := h'.below hal
  have HLA : Hid (∀ k, a.map Addr.block = some k → k < w.heap.size) := la
  have HNE : Hid (∀ k, a.map Addr.block = some k → b.map Addr.block = some k → False) := hne
  have HLB : Hid (∀ k, b.map Addr.block = some k → k < w.heap.size) := lb
  clear h h' hal la lb hne
  have hk2 : 1 + n * 3 ≤ 549755813888 := by omega
  obtain ⟨K, hK⟩ : ∃ K : Nat, K = 1 + n * 3 := ⟨_, rfl⟩
  rw [← hK] at hk2 ⊢
  have hK1 : 1 ≤ K := by omega
  have HKd : Hid (K = 1 + n * 3) := hK
  clear hK
  go_enter Tryz.func13, Tryz.ntmps13
  go_wp2_with fail
  refine (mark_lines a n c F hn 1 (by omega) (by omega) _ HA0.out).mono ?_
  rintro e w1 ⟨rfl, hO, hg⟩
  have c1 : w1.cell? ⟨w.heap.size, 1, none⟩ = some (.slice b m d) := (World.cell?_of_block (a := ⟨w.heap.size, 1, none⟩) (hg.block w.heap.size (by simp) (fun e => by have := HLA.out _ e.symm; omega))).trans (by simp)
  have HO1 : Hid (OwnR w1 a n 3 (mkLn 1)) := hO
  have HB1 : Hid (OwnR w1 b m 1 G) := HB0.out.grown hg (fun k e e' => HNE.out k e'.symm e)
  have HG1 : Hid ((w.alloc (.cells #[.slice a n c, .slice b m d] 31)).grownBy w1 (a.map Addr.block)) := hg
  clear hO hg HA0 HB0
  rw [← HKd.out]
  go_wp2_with fail
  refine (mark_texts b m d G hm K hK1 hk2 _ HB1.out).mono ?_
  rintro e w2 ⟨rfl, hO, hg⟩
  have HO2 : Hid (OwnR w2 a n 3 (mkLn 1)) := HO1.out.grown hg (fun k e e' => HNE.out k e e'.symm)
  have HP2 : Hid (OwnR w2 b m 1 (mkT K)) := hO
  have HK2 : Hid (Kb w w2 (a.map Addr.block) (b.map Addr.block)) := Kb.prev HAL.out (Kb.of HG1.out hg)
  clear hO hg HO1 HB1 HG1 c1
  go_wp2_with fail
  go_ret
  exact ⟨ret_int (by omega), HO2.out, HP2.out, HK2.out⟩
end Go.Proofs.YtepkmbfedblhdaaGreatDoor
namespace Go.Proofs.YtepkmbfedblhdaaGreatDoor
open Go.RowKit
open Go.Proofs.YtepkmbfedblhdaaGreatDoor.Draw

set_option maxRecDepth 100000 in
set_option maxHeartbeats 8000000 in
theorem held_book (a : Option Addr) (n c : Nat) (b : Option Addr) (m d : Nat) (hn : n ≤ 1048576) (hm : m ≤ 1048576) (w : World) (h : OwnR w a n 3 (mkLn 1)) (h' : OwnR w b m 1 (mkT (1 + n * 3))) :
    Calls Tryz.prog 39 #[.agg #[.slice a n c, .slice b m d], .int .i64 1] w fun e w' => e = .returned (.int .i64 ((1 + n * 3 + m : Nat) : Int)) ∧ Below w.heap.size w w' := by
  have hal : Below w.heap.size w (w.alloc (.cells #[.slice a n c, .slice b m d] 31)) := (Below.refl _ _).alloc (Nat.le_refl _) _
  have HAL : Hid (Below w.heap.size w (w.alloc (.cells #[.slice a n c, .slice b m d] 31))) := hal
  have HA0 : Hid (OwnR (w.alloc (.cells #[.slice a n c, .slice b m d] 31)) a n 3 (mkLn 1)) := h.below hal
  have HB0 : Hid (OwnR (w.alloc (.cells #[.slice a n c, .slice b m d] 31)) b m 1 (mkT (1 + n * 3))) := h'.below hal
  clear h h' hal
  have hk2 : 1 + n * 3 ≤ 549755813888 := by omega
  obtain ⟨K, hK⟩ : ∃ K : Nat, K = 1 + n * 3 := ⟨_, rfl⟩
  rw [← hK] at hk2 HB0 ⊢
  have hK1 : 1 ≤ K := by omega
  have HKd : Hid (K = 1 + n * 3) := hK
  clear hK
  go_enter Tryz.func39, Tryz.ntmps39
  go_wp2_with fail
  refine (held_lines a n c hn 1 (by omega) (by omega) _ HA0.out).mono ?_
  rintro e w1 ⟨rfl, hb⟩
  have c1 : w1.cell? ⟨w.heap.size, 1, none⟩ = some (.slice b m d) := (hb.cell (p := ⟨w.heap.size, 1, none⟩) (by simp)).trans (by simp)
  have HB1 : Hid (OwnR w1 b m 1 (mkT K)) := HB0.out.below hb
  have HL1 : Hid (Below w.heap.size w w1) := HAL.out.trans (hb.mono HAL.out.size)
  clear hb HA0 HB0 HAL
  rw [← HKd.out]
  have q0 : decide ((K : Int) < 0) = false := by simp
  go_wp2_with fail
  refine (held_texts b m d hm K hK1 hk2 _ HB1.out).mono ?_
  rintro e w2 ⟨rfl, hb⟩
  have HL2 : Hid (Below w.heap.size w w2) := HL1.out.trans (hb.mono HL1.out.size)
  clear hb HB1 HL1 c1
  have q1 : decide (((K + m : Nat) : Int) < 0) = false := by simp; omega
  have q1' : decide ((K : Int) + (m : Int) < 0) = false := by simp; omega
  go_wp2_with fail
  go_ret
  exact ⟨ret_int (by omega), HL2.out⟩
end Go.Proofs.YtepkmbfedblhdaaGreatDoor
namespace Go.Proofs.YtepkmbfedblhdaaGreatDoor
open Go.RowKit
open Go.Proofs.YtepkmbfedblhdaaGreatDoor.Draw

set_option maxRecDepth 100000 in
set_option maxHeartbeats 8000000 in
theorem mark_bookOut (a : Option Addr) (n c : Nat) (b : Option Addr) (m d : Nat) (p cd : Int) (F G : Nat → Value) (hn : n ≤ 1048576) (hm : m ≤ 1048576) (w : World) (h : OwnR w a n 3 F) (h' : OwnR w b m 1 G) (la : ∀ k, a.map Addr.block = some k → k < w.heap.size) (lb : ∀ k, b.map Addr.block = some k → k < w.heap.size) (hne : ∀ k, a.map Addr.block = some k → b.map Addr.block = some k → False) :
    Calls Tryz.prog 15 #[.agg #[.slice a n c, .slice b m d, .int .i64 p, .int .i64 cd], .int .i64 1] w fun e w' => e = .returned (.int .i64 ((1 + n * 3 + m : Nat) : Int)) ∧ OwnR w' a n 3 (mkLn 1) ∧ OwnR w' b m 1 (mkT (1 + n * 3)) ∧ Kb w w' (a.map Addr.block) (b.map Addr.block) := by
  have hal : Below w.heap.size w (w.alloc (.cells #[.slice a n c, .slice b m d, .int .i64 p, .int .i64 cd] 33)) := (Below.refl _ _).alloc (Nat.le_refl _) _
  have HAL : Hid (Below w.heap.size w (w.alloc (.cells #[.slice a n c, .slice b m d, .int .i64 p, .int .i64 cd] 33))) := hal
  have HM : Hid (Calls Tryz.prog 13 _ _ _) := mark_book a n c b m d F G hn hm _ (h.below hal) (h'.below hal) (fun k e => by have := la k e; simp; omega) (fun k e => by have := lb k e; simp; omega) hne
  clear h h' hal la lb hne
  go_enter Tryz.func15, Tryz.ntmps15
  go_wp2_with fail
  refine HM.out.mono ?_
  rintro e w1 ⟨rfl, hO, hP, hk⟩
  have HO : Hid (OwnR w1 a n 3 (mkLn 1)) := hO
  have HP : Hid (OwnR w1 b m 1 (mkT (1 + n * 3))) := hP
  have HK : Hid (Kb w w1 (a.map Addr.block) (b.map Addr.block)) := Kb.prev HAL.out hk
  clear hO hP hk HM HAL
  go_wp2_with fail
  go_ret
  exact ⟨ret_int (by omega), HO.out, HP.out, HK.out⟩
set_option maxRecDepth 100000 in
set_option maxHeartbeats 8000000 in
theorem held_bookOut (a : Option Addr) (n c : Nat) (b : Option Addr) (m d : Nat) (p cd : Int) (hn : n ≤ 1048576) (hm : m ≤ 1048576) (w : World) (h : OwnR w a n 3 (mkLn 1)) (h' : OwnR w b m 1 (mkT (1 + n * 3))) :
    Calls Tryz.prog 16 #[.agg #[.slice a n c, .slice b m d, .int .i64 p, .int .i64 cd], .int .i64 1] w fun e w' => e = .returned (.int .i64 ((1 + n * 3 + m : Nat) : Int)) ∧ Below w.heap.size w w' := by
  have hal : Below w.heap.size w (w.alloc (.cells #[.slice a n c, .slice b m d, .int .i64 p, .int .i64 cd] 33)) := (Below.refl _ _).alloc (Nat.le_refl _) _
  have HAL : Hid (Below w.heap.size w (w.alloc (.cells #[.slice a n c, .slice b m d, .int .i64 p, .int .i64 cd] 33))) := hal
  have HM : Hid (Calls Tryz.prog 39 _ _ _) := held_book a n c b m d hn hm _ (h.below hal) (h'.below hal)
  clear h h' hal
  obtain ⟨K, hK⟩ : ∃ K : Nat, K = 1 + n * 3 + m := ⟨_, rfl⟩
  rw [← hK] at HM ⊢
  have q0 : decide ((K : Int) < 0) = false := by simp
  clear hK
  go_enter Tryz.func16, Tryz.ntmps16
  go_wp2_with fail
  refine HM.out.mono ?_
  rintro e w1 ⟨rfl, hb⟩
  have HB : Hid (Below w.heap.size w w1) := HAL.out.trans (hb.mono HAL.out.size)
  clear hb HM HAL
  go_wp2_with fail
  go_ret
  exact ⟨rfl, HB.out⟩
end Go.Proofs.YtepkmbfedblhdaaGreatDoor
namespace Go.Proofs.YtepkmbfedblhdaaGreatDoor
open Go.RowKit
open Go.Proofs.YtepkmbfedblhdaaGreatDoor.Draw

end Go.Proofs.YtepkmbfedblhdaaGreatDoor
namespace Go.Proofs.YtepkmbfedblhdaaGreatDoor
open Go.RowKit
open Go.Proofs.YtepkmbfedblhdaaGreatDoor.Draw

end Go.Proofs.YtepkmbfedblhdaaGreatDoor
namespace Go.Proofs.YtepkmbfedblhdaaGreatDoor
open Go.RowKit
open Go.Proofs.YtepkmbfedblhdaaGreatDoor.Draw

/-- Two cells of a block. -/
structure Bc (W : World) (b : Nat) (v u : Value) : Prop where
  c0 : W.cell? ⟨b, 0, none⟩ = some v
  c1 : W.cell? ⟨b, 1, none⟩ = some u
  lt : b < W.heap.size
theorem Bc.below {W W' : World} {b : Nat} {v u : Value} (h : Bc W b v u) (hb : Below W.heap.size W W') : Bc W' b v u :=
  ⟨(hb.cell (p := ⟨b, 0, none⟩) h.lt).trans h.c0, (hb.cell (p := ⟨b, 1, none⟩) h.lt).trans h.c1, Nat.lt_of_lt_of_le h.lt hb.size⟩
theorem Bc.new (w : World) (v u : Value) (t : TypeId) : Bc (w.alloc (.cells #[v, u] t)) w.heap.size v u := ⟨by simp, by simp, by simp⟩
/-- A new outcome's block. -/
structure Zm (W : World) (R : Nat) : Prop where
  c0 : W.cell? ⟨R, 0, none⟩ = some (.int .i64 0)
  c1 : W.cell? ⟨R, 1, none⟩ = some (.int .i64 0)
  fz : ∀ j, W.frozen? ⟨R, j, none⟩ = false
  lt : R < W.heap.size
theorem Zm.new (w : World) (t : TypeId) : Zm (w.alloc (.cells #[.int .i64 0, .int .i64 0] t)) w.heap.size := ⟨by simp, by simp, fun j => fnew' rfl j, by simp⟩
theorem Zm.newd (w : World) (t : TypeId) : Zm (w.alloc (.cells #[.int .i64 0, .int .i64 0] t)).drew w.heap.size := ⟨by simp, by simp, fun j => by show (w.alloc _).frozen? _ = false; exact fnew' rfl j, by show w.heap.size < (w.alloc _).heap.size; simp⟩
theorem Zm.below {W W' : World} {R : Nat} (h : Zm W R) (hb : Below W.heap.size W W') : Zm W' R :=
  ⟨(hb.cell (p := ⟨R, 0, none⟩) h.lt).trans h.c0, (hb.cell (p := ⟨R, 1, none⟩) h.lt).trans h.c1, fun j => (hb.frozen (p := ⟨R, j, none⟩) h.lt).trans (h.fz j), Nat.lt_of_lt_of_le h.lt hb.size⟩
theorem Zm.put {W : World} {R : Nat} (h : Zm W R) (u v : Value) : Bc ((W.setCell ⟨R, 0, none⟩ u).setCell ⟨R, 1, none⟩ v) R u v := by
  have a0 := h.c0
  have a1 := h.c1
  refine ⟨?_, ?_, by simpa using h.lt⟩
  · rw [World.cell?_setCell_other _ _ _ _ (by simp)]; simp [go_sem, a0]
  · have : (W.setCell ⟨R, 0, none⟩ u).cell? ⟨R, 1, none⟩ = some (.int .i64 0) := by rw [World.cell?_setCell_other _ _ _ _ (by simp)]; exact a1
    simp [go_sem, this]
theorem Bc.set2 {W : World} {b R : Nat} {v u x y : Value} (h : Bc W b v u) (hne : b ≠ R) : Bc ((W.setCell ⟨R, 0, none⟩ x).setCell ⟨R, 1, none⟩ y) b v u := by
  have hb := (setGrown (j := 1) (u := y) (setGrown (j := 0) (u := x) (World.grownBy.refl W (some R)))).block b h.lt (by simpa using hne)
  exact ⟨(World.cell?_of_block (a := ⟨b, 0, none⟩) hb).trans h.c0, (World.cell?_of_block (a := ⟨b, 1, none⟩) hb).trans h.c1, by simpa using h.lt⟩
theorem below_set2 {w W : World} {R : Nat} {x y : Value} (h : Below w.heap.size w W) (hR : w.heap.size ≤ R) : Below w.heap.size w ((W.setCell ⟨R, 0, none⟩ x).setCell ⟨R, 1, none⟩ y) := (h.setCell (by exact hR) _).setCell (by exact hR) _
theorem Own.set2 {W : World} {g N R : Nat} {F : Nat → Value} {x y : Value} (h : Own W g N F) (hne : g ≠ R) : Own ((W.setCell ⟨R, 0, none⟩ x).setCell ⟨R, 1, none⟩ y) g N F := (h.grown (setGrown (World.grownBy.refl _ _)) hne).grown (setGrown (World.grownBy.refl _ _)) hne
end Go.Proofs.YtepkmbfedblhdaaGreatDoor
namespace Go.Proofs.YtepkmbfedblhdaaGreatDoor
open Go.RowKit
open Go.Proofs.YtepkmbfedblhdaaGreatDoor.Draw

theorem LegsAt.grown {w w' : World} {a : Option Addr} {n q : Nat} {L : Nat → Lg} (h : LegsAt w a n L) (hg : w.grownBy w' (some q)) (hne : ∀ g o, a = some ⟨g, o, none⟩ → g ≠ q) : LegsAt w' a n L := by
  rcases h with h | ⟨g, o, rfl, hl, hc⟩
  · exact Or.inl h
  · have hb := hg.block g hl (by simpa using hne g o rfl)
    refine Or.inr ⟨g, o, rfl, Nat.lt_of_lt_of_le hl hg.size, fun i hi => ?_⟩
    obtain ⟨c0, c1, c2, c3, c4⟩ := hc i hi
    exact ⟨(World.cell?_of_block (a := ⟨g, _, none⟩) hb).trans c0, (World.cell?_of_block (a := ⟨g, _, none⟩) hb).trans c1, (World.cell?_of_block (a := ⟨g, _, none⟩) hb).trans c2, (World.cell?_of_block (a := ⟨g, _, none⟩) hb).trans c3, (World.cell?_of_block (a := ⟨g, _, none⟩) hb).trans c4⟩
/-- What marked legs' cells read. -/
def mkL (k0 : Nat) (j : Nat) : Value := if j % 5 = 4 then .int .i64 ((k0 + j : Nat) : Int) else .string (mtx (k0 + j))
theorem mkL_at (k0 i : Nat) : mkL k0 (i * 5) = .string (mtx (k0 + i * 5)) ∧ mkL k0 (i * 5 + 1) = .string (mtx (k0 + i * 5 + 1)) ∧ mkL k0 (i * 5 + 2) = .string (mtx (k0 + i * 5 + 2)) ∧ mkL k0 (i * 5 + 3) = .string (mtx (k0 + i * 5 + 3)) ∧ mkL k0 (i * 5 + 4) = .int .i64 ((k0 + i * 5 + 4 : Nat) : Int) := by
  refine ⟨?_, ?_, ?_, ?_, ?_⟩
  · rw [mkL, if_neg (by omega)]
  · rw [mkL, if_neg (by omega)]; rfl
  · rw [mkL, if_neg (by omega)]; rfl
  · rw [mkL, if_neg (by omega)]; rfl
  · rw [mkL, if_pos (by omega)]; rfl
theorem five_fun {F G G0 : Nat → Value} {I : Nat} (h0 : G0 = fun j => if j < I * 5 then G j else F j) {v0 v1 v2 v3 v4 : Value} (e0 : G (I * 5) = v0) (e1 : G (I * 5 + 1) = v1) (e2 : G (I * 5 + 2) = v2) (e3 : G (I * 5 + 3) = v3) (e4 : G (I * 5 + 4) = v4) {j : Nat} :
    (if j = I * 5 + 4 then v4 else if j = I * 5 + 3 then v3 else if j = I * 5 + 2 then v2 else if j = I * 5 + 1 then v1 else if j = I * 5 then v0 else G0 j) = if j < (I + 1) * 5 then G j else F j := by
  rw [h0]
  by_cases c4 : j = I * 5 + 4
  · rw [if_pos c4, if_pos (by omega), c4, e4]
  rw [if_neg c4]
  by_cases c3 : j = I * 5 + 3
  · rw [if_pos c3, if_pos (by omega), c3, e3]
  rw [if_neg c3]
  by_cases c2 : j = I * 5 + 2
  · rw [if_pos c2, if_pos (by omega), c2, e2]
  rw [if_neg c2]
  by_cases c1 : j = I * 5 + 1
  · rw [if_pos c1, if_pos (by omega), c1, e1]
  rw [if_neg c1]
  by_cases c0 : j = I * 5
  · rw [if_pos c0, if_pos (by omega), c0, e0]
  rw [if_neg c0]
  show (if j < I * 5 then G j else F j) = _
  by_cases c : j < I * 5
  · rw [if_pos c, if_pos (by omega)]
  · rw [if_neg c, if_neg (by omega)]
set_option maxRecDepth 100000 in
set_option maxHeartbeats 4000000 in
theorem mark_legs (a : Option Addr) (n cap : Nat) (F : Nat → Value) (hn : n ≤ 1048576) (k0 : Nat) (hk1 : 1 ≤ k0) (hk2 : k0 ≤ 549755813888) (w : World) (h : OwnR w a n 5 F) :
    Calls Tryz.prog 14 #[.slice a n cap, .int .i64 (k0 : Int)] w fun e w' => e = .returned (.int .i64 ((k0 + n * 5 : Nat) : Int)) ∧ OwnR w' a n 5 (mkL k0) ∧ w.grownBy w' (a.map Addr.block) := by
  rcases h with h0 | ⟨g, rfl, hO⟩
  · subst h0
    go_enter Tryz.func14, Tryz.ntmps14
    go_wp2_with fail
    refine wp_loop_rounds 1 ?_
    rw [rounds_succ]
    go_wp2
    go_ret
    exact ⟨ret_int (by omega), Or.inl rfl, World.grownBy.refl _ _⟩
  have HO : Hid (Own w g (n * 5) F) := hO
  clear hO
  go_enter Tryz.func14, Tryz.ntmps14
  go_wp2_with fail
  go_loopw [1, 5] (fun x i wr => ∃ I K : Nat, x = .int .i64 (K : Int) ∧ i = .int .i64 (I : Int) ∧ I ≤ n ∧ K = k0 + I * 5 ∧ Hid (Own wr g (n * 5) (fun j => if j < I * 5 then mkL k0 j else F j)) ∧ Hid (w.grownBy wr (some g))) (fun _ i _ => n - (intOf i).toNat)
  case atStart => exact ⟨0, k0, rfl, rfl, by omega, by omega, HO.out.congr (fun j _ => by rw [if_neg (by omega)]), World.grownBy.refl _ _⟩
  case round =>
    obtain ⟨I, K, rfl, rfl, hI, hK, HOr, HG⟩ := hrel
    by_cases hin : I < n
    · have p0 : decide (I < n) = true := by simpa using hin
      have p1 : decide ((I : Int) < (n : Int)) = true := by simpa using hin
      have HE : Hid (mkL k0 (I * 5) = .string (mtx K) ∧ mkL k0 (I * 5 + 1) = .string (mtx (K + 1)) ∧ mkL k0 (I * 5 + 2) = .string (mtx (K + 2)) ∧ mkL k0 (I * 5 + 3) = .string (mtx (K + 3)) ∧ mkL k0 (I * 5 + 4) = .int .i64 ((K + 4 : Nat) : Int)) := by rw [hK]; exact mkL_at k0 I
      have hKb : K ≤ 1099511627000 := by omega
      have hK1 : 1 ≤ K := by omega
      have HK : Hid (K = k0 + I * 5) := hK
      clear hK
      obtain ⟨G0, hG0⟩ : ∃ G, G = (fun j => if j < I * 5 then mkL k0 j else F j) := ⟨_, rfl⟩
      have HGE : Hid (G0 = (fun j => if j < I * 5 then mkL k0 j else F j)) := hG0
      rw [← hG0] at HOr
      clear hG0
      obtain ⟨T0, hT0⟩ : ∃ t, t = mtx K := ⟨_, rfl⟩
      obtain ⟨T1, hT1⟩ : ∃ t, t = mtx (K + 1) := ⟨_, rfl⟩
      obtain ⟨T2, hT2⟩ : ∃ t, t = mtx (K + 2) := ⟨_, rfl⟩
      obtain ⟨T3, hT3⟩ : ∃ t, t = mtx (K + 3) := ⟨_, rfl⟩
      have M0 := fun z hz W => mark_text' z K hz (by omega) (by omega) W
      have M1 := fun z hz W => mark_text' z (K + 1) hz (by omega) (by omega) W
      have M2 := fun z hz W => mark_text' z (K + 2) hz (by omega) (by omega) W
      have M3 := fun z hz W => mark_text' z (K + 3) hz (by omega) (by omega) W
      rw [← hT0, ← hT1, ← hT2, ← hT3] at HE
      rw [← hT0] at M0
      rw [← hT1] at M1
      rw [← hT2] at M2
      rw [← hT3] at M3
      clear hT0 hT1 hT2 hT3
      have M0 : Hid (∀ z, z = ((K : Nat) : Int) → ∀ W, Calls Tryz.prog 38 #[.int .i64 z] W fun e w' => e = .returned (.string T0) ∧ Below W.heap.size W w') := M0
      have M1 : Hid (∀ z, z = ((K + 1 : Nat) : Int) → ∀ W, Calls Tryz.prog 38 #[.int .i64 z] W fun e w' => e = .returned (.string T1) ∧ Below W.heap.size W w') := M1
      have M2 : Hid (∀ z, z = ((K + 2 : Nat) : Int) → ∀ W, Calls Tryz.prog 38 #[.int .i64 z] W fun e w' => e = .returned (.string T2) ∧ Below W.heap.size W w') := M2
      have M3 : Hid (∀ z, z = ((K + 3 : Nat) : Int) → ∀ W, Calls Tryz.prog 38 #[.int .i64 z] W fun e w' => e = .returned (.string T3) ∧ Below W.heap.size W w') := M3
      go_wp2_with fail
      refine (M0.out _ (by omega) _).mono ?_
      rintro e w1 ⟨rfl, hb⟩
      have HO0 := HOr.out.below hb
      obtain ⟨y0, hc0⟩ : ∃ y, w1.cell? ⟨g, I * 5, none⟩ = some y := ⟨_, HO0.2.1 (I * 5) (by omega)⟩
      have hf0 := HO0.2.2 (I * 5)
      have HO0 := HO0.set (i := I * 5) (by omega) (.string T0)
      have HO0 : Hid (Own (w1.setCell ⟨g, I * 5, none⟩ (.string T0)) g (n * 5) _) := HO0
      have HG0 : Hid (w.grownBy (w1.setCell ⟨g, I * 5, none⟩ (.string T0)) (some g)) := setGrown (below_grown HG.out hb)
      clear hb
      go_wp2_with fail
      refine (M1.out _ (by omega) _).mono ?_
      rintro e w2 ⟨rfl, hb⟩
      have HO1 := HO0.out.below hb
      obtain ⟨y1, hc1⟩ : ∃ y, w2.cell? ⟨g, I * 5 + 1, none⟩ = some y := ⟨_, HO1.2.1 (I * 5 + 1) (by omega)⟩
      have hf1 := HO1.2.2 (I * 5 + 1)
      have HO1 := HO1.set (i := I * 5 + 1) (by omega) (.string T1)
      have HO1 : Hid (Own (w2.setCell ⟨g, I * 5 + 1, none⟩ (.string T1)) g (n * 5) _) := HO1
      have HG1 : Hid (w.grownBy (w2.setCell ⟨g, I * 5 + 1, none⟩ (.string T1)) (some g)) := setGrown (below_grown HG0.out hb)
      clear hb
      go_wp2_with fail
      refine (M2.out _ (by omega) _).mono ?_
      rintro e w3 ⟨rfl, hb⟩
      have HO2 := HO1.out.below hb
      obtain ⟨y2, hc2⟩ : ∃ y, w3.cell? ⟨g, I * 5 + 2, none⟩ = some y := ⟨_, HO2.2.1 (I * 5 + 2) (by omega)⟩
      have hf2 := HO2.2.2 (I * 5 + 2)
      have HO2 := HO2.set (i := I * 5 + 2) (by omega) (.string T2)
      have HO2 : Hid (Own (w3.setCell ⟨g, I * 5 + 2, none⟩ (.string T2)) g (n * 5) _) := HO2
      have HG2 : Hid (w.grownBy (w3.setCell ⟨g, I * 5 + 2, none⟩ (.string T2)) (some g)) := setGrown (below_grown HG1.out hb)
      clear hb
      go_wp2_with fail
      refine (M3.out _ (by omega) _).mono ?_
      rintro e w4 ⟨rfl, hb⟩
      have HO3 := HO2.out.below hb
      obtain ⟨y3, hc3⟩ : ∃ y, w4.cell? ⟨g, I * 5 + 3, none⟩ = some y := ⟨_, HO3.2.1 (I * 5 + 3) (by omega)⟩
      have hf3 := HO3.2.2 (I * 5 + 3)
      have HO3 := HO3.set (i := I * 5 + 3) (by omega) (.string T3)
      have HO3 : Hid (Own (w4.setCell ⟨g, I * 5 + 3, none⟩ (.string T3)) g (n * 5) _) := HO3
      have HG3 : Hid (w.grownBy (w4.setCell ⟨g, I * 5 + 3, none⟩ (.string T3)) (some g)) := setGrown (below_grown HG2.out hb)
      clear hb
      obtain ⟨y4, hc4⟩ : ∃ y, (w4.setCell ⟨g, I * 5 + 3, none⟩ (.string T3)).cell? ⟨g, I * 5 + 4, none⟩ = some y := ⟨_, HO3.out.2.1 (I * 5 + 4) (by omega)⟩
      have hf4 := HO3.out.2.2 (I * 5 + 4)
      have HO4 := HO3.out.set (i := I * 5 + 4) (by omega) (.int .i64 ((K + 4 : Nat) : Int))
      have HG4 : Hid (w.grownBy ((w4.setCell ⟨g, I * 5 + 3, none⟩ (.string T3)).setCell ⟨g, I * 5 + 4, none⟩ (.int .i64 ((K + 4 : Nat) : Int))) (some g)) := setGrown HG3.out
      have HO5 : Hid (Own ((w4.setCell ⟨g, I * 5 + 3, none⟩ (.string T3)).setCell ⟨g, I * 5 + 4, none⟩ (.int .i64 ((K + 4 : Nat) : Int))) g (n * 5) (fun j => if j < (I + 1) * 5 then mkL k0 j else F j)) := HO4.congr (fun j _ => five_fun (by rw [HGE.out]) HE.out.1 HE.out.2.1 HE.out.2.2.1 HE.out.2.2.2.1 HE.out.2.2.2.2)
      have he4 : ((K + 4 : Nat) : Int) = (K : Int) + 1 + 1 + 1 + 1 := by omega
      rw [he4] at HG4 HO5
      clear HO4 HO0 HO1 HO2 HO3 HOr HG0 HG1 HG2 HG3 HG M0 M1 M2 M3 HE HGE he4
      simp [go_sem] at hc4
      go_wp2_with fail
      go_roundw
      case rel => exact ⟨I + 1, K + 5, by go_num, by go_num, by omega, by have := HK.out; omega, HO5, HG4⟩
      case measure => simp [intOf]; omega
    · have p0 : decide (I < n) = false := by simpa using hin
      have p1 : decide ((I : Int) < (n : Int)) = false := by simpa using hin
      obtain rfl : I = n := by omega
      go_wp2_with fail
      go_ret
      exact ⟨ret_int (by omega), Or.inr ⟨g, rfl, HOr.out.congr (fun j hj => by rw [if_pos hj])⟩, HG.out⟩
end Go.Proofs.YtepkmbfedblhdaaGreatDoor
