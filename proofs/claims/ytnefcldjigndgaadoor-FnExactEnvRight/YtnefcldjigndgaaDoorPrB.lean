/- Two lists of texts put together by Go's own slices.Concat: what the calls do. -/
import Derived.Test.YtnefcldjigndgaaDoorPrA
import Derived.Lib.AppendZerosOnto
namespace Go.Proofs.YtnefcldjigndgaaDoor
open Go.RowKit Go.Maps
open Go.Proofs.YtnefcldjigndgaaDoor.Draw

theorem grow_run (n : Nat) (h1 : 1 ≤ n) (h2 : n ≤ 1048576) (w : World) : ∃ G w', n ≤ G ∧ G ≤ 9223372036854775807 ∧ (∀ ty, (Builtin.append_ #[30, 3] ty #[.slice none 0 0, .int .i64 (n : Int)]).run Tryd.prog w = .ok (.slice (some ⟨w.heap.size, 0, none⟩) n G) w') ∧ w'.ownsRow w.heap.size 9 1 (.slice (some ⟨w.heap.size, 0, none⟩) 0 G) 0 [] ∧ Below w.heap.size w w' := by
  obtain ⟨i0, hi, hz0, hz1, hz2⟩ := info_parts infoText
  have hold : (Builtin.firstCells i0.size 0 (.slice none 0 0)).run Tryd.prog w.drew = .ok ([] : List Value).toArray w.drew := run_firstCells_none w.drew i0.size 0 0 0
  have hG := grownCap_ge w n 0 9
  have hGm := grownCap_le_maxLen w n 0 9 (by unfold maxLen; omega)
  have hG63 : grownCap w n 0 9 ≤ 9223372036854775807 := by unfold maxLen at hGm; omega
  refine ⟨grownCap w n 0 9, (w.drew.alloc (.cells (([] : List Value).toArray ++ Builtin.zeroCells (Value.string ⟨#[]⟩).cells n ++ Builtin.zeroCells (Value.string ⟨#[]⟩).cells (grownCap w n 0 9 - n)) 9)), hG, hG63, fun ty => ?_, ?_, ?_⟩
  rotate_left
  · refine ⟨rfl, Or.inr ⟨w.heap.size, grownCap w n 0 9, _, rfl, Nat.le_refl _, heap_alloc_new w.drew _, by omega, hGm, ?_, by simp⟩⟩
    simp [Builtin.zeroCells, Value.cells]
    omega
  · exact ((Below.refl _ _).drew).alloc (Nat.le_refl _) _
  · have h := Lib.run_append_grow_zeros w 30 3 ty 9 i0 (.string ⟨#[]⟩) .i64 .i64 Tryd.underlying30 Tryd.underlying3 hi hz0 none 0 0 [] hold n (by omega) (by omega) (by omega) (by omega) (by rw [hz2]; omega) (growslice_fits (by omega) (by rw [hz2]; omega))
    rw [Nat.zero_add] at h
    exact h
set_option maxRecDepth 100000 in
set_option maxHeartbeats 8000000 in
theorem impl_grow (n : Nat) (h1 : 1 ≤ n) (h2 : n ≤ 1048576) (w : World) :
    Calls Tryd.prog 83 #[.slice none 0 0, .int .i64 (n : Int)] w fun e w' => ∃ v, e = .returned v ∧ w'.ownsRow w.heap.size 9 1 v 0 [] ∧ Below w.heap.size w w' := by
  obtain ⟨G, w', hG, hG63, hrun, hown, hb⟩ := grow_run n h1 h2 w
  have HO : Hid (w'.ownsRow w.heap.size 9 1 (.slice (some ⟨w.heap.size, 0, none⟩) 0 G) 0 []) := hown
  have HB : Hid (Below w.heap.size w w') := hb
  have q0 : decide ((n : Int) < 0) = false := by simp
  have q1 : decide ((0 : Int) < (n : Int)) = true := by simp; omega
  have hG0 : ¬ G = 0 := by omega
  clear hown hb
  go_enter Tryd.func83, Tryd.ntmps83
  go_wp2_with (at_builtin; refine Lib.wpList_append_run _ rfl _ _ _ _ rfl _ _ rfl rfl _ _ (hrun _) ?_)
  all_goals (go_ret; exact ⟨_, rfl, HO.out, HB.out⟩)
set_option maxRecDepth 100000 in
set_option maxHeartbeats 8000000 in
theorem impl_concat (q g0 g1 nc ns : Nat) (C S : Nat → Tx) (hc : nc ≤ 1000) (hs : ns ≤ 1000) (h1 : 1 ≤ nc + ns) (w : World) (hq : q < w.heap.size) (e0 : w.cell? ⟨q, 0, none⟩ = some (.slice (some ⟨g0, 0, none⟩) nc nc)) (e1 : w.cell? ⟨q, 1, none⟩ = some (.slice (some ⟨g1, 0, none⟩) ns ns)) (hC : TextsAt w (some ⟨g0, 0, none⟩) nc C) (hS : TextsAt w (some ⟨g1, 0, none⟩) ns S) :
    Calls Tryd.prog 75 #[.slice (some ⟨q, 0, none⟩) 2 2] w fun e w' => ∃ v, e = .returned v ∧ w'.ownsRow w.heap.size 9 1 v (nc + ns) (textsC C nc ++ textsC S ns) ∧ Below w.heap.size w w' := by
  obtain ⟨i0, hi, hz0, hz1, hz2⟩ := info_parts infoText
  have HC : Hid (TextsAt w (some ⟨g0, 0, none⟩) nc C) := hC
  have HS : Hid (TextsAt w (some ⟨g1, 0, none⟩) ns S) := hS
  have HG : Hid (∀ W, Calls Tryd.prog 83 #[.slice none 0 0, .int .i64 ((nc : Int) + (ns : Int))] W fun e w' => ∃ v, e = .returned v ∧ w'.ownsRow W.heap.size 9 1 v 0 [] ∧ Below W.heap.size W w') := fun W => by have := impl_grow (nc + ns) h1 (by omega) W; rw [Int.natCast_add] at this; exact this
  clear hC hS
  have n0 : decide ((nc : Int) < 0) = false := by simp
  have n1 : decide ((nc : Int) + (ns : Int) < 0) = false := by simp; omega
  go_enter Tryd.func75, Tryd.ntmps75
  go_wp2_with fail
  go_loop [3, 11] (fun z i => ∃ k : Nat, i = .int .i64 k ∧ k ≤ 2 ∧ ((k = 0 ∧ z = .int .i64 0) ∨ (k = 1 ∧ z = .int .i64 (nc : Int)) ∨ (k = 2 ∧ z = .int .i64 ((nc : Int) + (ns : Int))))) (fun _ i => 2 - (intOf i).toNat)
  case atStart => exact ⟨0, rfl, by omega, Or.inl ⟨rfl, rfl⟩⟩
  case round =>
    obtain ⟨k, rfl, hk, ⟨rfl, rfl⟩ | ⟨rfl, rfl⟩ | ⟨rfl, rfl⟩⟩ := hrel
    · go_wp2_with fail
      go_round
      case rel => exact ⟨1, by go_num, by omega, Or.inr (Or.inl ⟨rfl, by go_num⟩)⟩
      case measure => simp [intOf]
    · go_wp2_with fail
      go_round
      case rel => exact ⟨2, by go_num, by omega, Or.inr (Or.inr ⟨rfl, by go_num⟩)⟩
      case measure => simp [intOf]
    · go_wp2_with fail
      refine (HG.out _).mono ?_
      rintro e w1 ⟨v, rfl, ho, hb⟩
      have HO1 : Hid (w1.ownsRow w.heap.size 9 1 v 0 []) := ho
      have HB1 : Hid (Below w.heap.size w w1) := hb
      clear ho hb HG
      go_wp2_with fail
      go_loopw [6, 27] (fun v i wr => ∃ k : Nat, i = .int .i64 k ∧ k ≤ 2 ∧ Hid (Below w.heap.size w wr) ∧ ((k = 0 ∧ Hid (wr.ownsRow w.heap.size 9 1 v 0 [])) ∨ (k = 1 ∧ Hid (wr.ownsRow w.heap.size 9 1 v nc (textsC C nc))) ∨ (k = 2 ∧ Hid (wr.ownsRow w.heap.size 9 1 v (nc + ns) (textsC C nc ++ textsC S ns))))) (fun _ i _ => 2 - (intOf i).toNat)
      case atStart => exact ⟨0, rfl, by omega, HB1, Or.inl ⟨rfl, HO1⟩⟩
      case round =>
        obtain ⟨k, rfl, hk, HB, ⟨rfl, HO⟩ | ⟨rfl, HO⟩ | ⟨rfl, HO⟩⟩ := hrel
        · skip
          have d0 := (HB.out.cell (p := ⟨q, 0, none⟩) hq).trans e0
          have hT := (HC.out.below HB.out)
          have hown := HO.out
          have hsz := HB.out.size
          go_wp2_with (at_builtin; refine wpList_append_own _ rfl (.tmp 31) (.tmp 32) 30 rfl w.heap.size 9 i0 (.string ⟨#[]⟩) 1 16 Tryd.underlying30 hi hz0 hz1 hz2 rfl (by decide) _ _ _ rfl hown ⟨g0, 0, none⟩ nc nc (textsC C nc) rfl (textsC_len _ _) (news_texts hT) (ones_texts _ _) (by unfold maxLen; omega) (by omega) (by omega) ?_)
          intro v' w2 hown2 hg _
          have HO2 : Hid (w2.ownsRow w.heap.size 9 1 v' (nc) (textsC C nc)) := (by simpa using hown2 : w2.ownsRow w.heap.size 9 1 v' (nc) (textsC C nc))
          have HB2 : Hid (Below w.heap.size w w2) := HB.out.grown hg HB.out.size (fun j hj => (hown.lt j hj).1)
          clear hown2 hg hown hT d0 HO HB
          go_wp2_with fail
          go_roundw
          case rel => exact ⟨1, by go_num, by omega, HB2, Or.inr (Or.inl ⟨rfl, HO2⟩)⟩
          case measure => simp [intOf]
        · skip
          have d1 := (HB.out.cell (p := ⟨q, 1, none⟩) hq).trans e1
          have hT := (HS.out.below HB.out)
          have hown := HO.out
          have hsz := HB.out.size
          go_wp2_with (at_builtin; refine wpList_append_own _ rfl (.tmp 31) (.tmp 32) 30 rfl w.heap.size 9 i0 (.string ⟨#[]⟩) 1 16 Tryd.underlying30 hi hz0 hz1 hz2 rfl (by decide) _ _ _ rfl hown ⟨g1, 0, none⟩ ns ns (textsC S ns) rfl (textsC_len _ _) (news_texts hT) (ones_texts _ _) (by unfold maxLen; omega) (by omega) (by omega) ?_)
          intro v' w2 hown2 hg _
          have HO2 : Hid (w2.ownsRow w.heap.size 9 1 v' (nc + ns) (textsC C nc ++ textsC S ns)) := hown2
          have HB2 : Hid (Below w.heap.size w w2) := HB.out.grown hg HB.out.size (fun j hj => (hown.lt j hj).1)
          clear hown2 hg hown hT d1 HO HB
          go_wp2_with fail
          go_roundw
          case rel => exact ⟨2, by go_num, by omega, HB2, Or.inr (Or.inr ⟨rfl, HO2⟩)⟩
          case measure => simp [intOf]
        · go_wp2_with fail
          go_ret
          exact ⟨_, rfl, HO.out, HB.out⟩
end Go.Proofs.YtnefcldjigndgaaDoor
