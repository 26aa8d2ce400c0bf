/- Plan, of the program and of its model: what each call does. -/
import Derived.Test.YtmeffdggpdojhaaDoorPlanIn
import Derived.Deep.AppendLies
namespace Go.Proofs.YtmeffdggpdojhaaDoor
open Go.RowKit


set_option maxRecDepth 100000 in
set_option maxHeartbeats 4000000 in
theorem impl_Plan_no (p r b s t : Int) (hr : loanB p r b s t = false) (w : World) (hM : Mon w) :
    Calls Tryd.prog 16 #[.agg #[.int .i64 p, .int .i64 r, .int .i64 b, .int .i64 s, .int .i64 t]] w fun e w' => e = .returned (.agg #[.int .i64 0, .slice none 0 0, .int .i64 1]) ∧ Below w.heap.size w w' := by
  have HM : Hid (Mon w) := hM
  clear hM
  have H : Hid (loanB p r b s t = false) := hr
  clear hr
  go_enter Tryd.func16, Tryd.ntmps16
  go_wp2_with fail
  refine (impl_loanRight p r b s t _ (by exact HM.out.below (two_new _ _ _ _ _).bel)).mono ?_
  rintro e w1 ⟨rfl, hb1⟩
  have T1 := (two_new w #[.int .i64 p, .int .i64 r, .int .i64 b, .int .i64 s, .int .i64 t] #[.int .i64 0, .slice none 0 0, .int .i64 0] 24 34).next hb1
  rw [H.out]
  have c1 := T1.box
  have r1 := T1.res
  have f1 := T1.fro
  have HT : Hid (Two w w1 #[.int .i64 p, .int .i64 r, .int .i64 b, .int .i64 s, .int .i64 t] #[.int .i64 0, .slice none 0 0, .int .i64 0]) := T1
  clear hb1 T1
  go_wp2_with fail
  refine bodyPost_ret (v := .agg #[.int .i64 0, .slice none 0 0, .int .i64 1]) ?_ rfl ⟨rfl, ?_⟩
  · simp [results, Tryd.results16, go_sem, r1]
  · exact ((HT.out.bel.setCell (Nat.le_succ _) _).setCell (Nat.le_succ _) _).setCell (Nat.le_succ _) _

set_option maxRecDepth 100000 in
set_option maxHeartbeats 4000000 in
theorem impl_Plan_ok {p r b s : Int} {n : Nat} (h : LoanOk p r b s n) {X : Nat} (hX : IsInst p r b s n X) (w : World) (hM : Mon w) (hL : Lay w) :
    Calls Tryd.prog 16 #[.agg #[.int .i64 p, .int .i64 r, .int .i64 b, .int .i64 s, .int .i64 (n : Int)]] w fun e w' => ∃ u, e = .returned (.agg #[.int .i64 X, u, .int .i64 0]) ∧ w'.ownsRow w.heap.size 37 4 u n (rowsC p r b s X n) ∧ Below w.heap.size w w' := by
  have HM : Hid (Mon w) := hM
  have HL : Hid (Lay w) := hL
  clear hM hL
  have H : Hid (loanB p r b s n = true) := (loanB_iff _ _ _ _ _).2 h
  have t0 := h.t0
  have t1 := h.t1
  have X1 := hX.high
  have HO : Hid (LoanOk p r b s n) := h
  have HX : Hid (IsInst p r b s n X) := hX
  clear h hX
  go_enter Tryd.func16, Tryd.ntmps16
  go_wp2_with fail
  refine (impl_loanRight p r b s (n : Int) _ (by exact HM.out.below (two_new _ _ _ _ _).bel)).mono ?_
  rintro e w1 ⟨rfl, hb1⟩
  have T1 := (two_new w #[.int .i64 p, .int .i64 r, .int .i64 b, .int .i64 s, .int .i64 (n : Int)] #[.int .i64 0, .slice none 0 0, .int .i64 0] 24 34).next hb1
  rw [H.out]
  have c1 := T1.box
  have r1 := T1.res
  have f1 := T1.fro
  have HT : Hid (Two w w1 #[.int .i64 p, .int .i64 r, .int .i64 b, .int .i64 s, .int .i64 (n : Int)] #[.int .i64 0, .slice none 0 0, .int .i64 0]) := T1
  clear hb1 T1
  go_wp2_with fail
  refine (impl_course HO.out _ (by exact HM.out.below HT.out.bel) (by exact HL.out.below HT.out.bel)).mono ?_
  rintro e w2 ⟨v, rfl, hv, hb2⟩
  have T2 := HT.out.next hb2
  have hs2 := T2.size
  have HT2 : Hid (Two w w2 #[.int .i64 p, .int .i64 r, .int .i64 b, .int .i64 s, .int .i64 (n : Int)] #[.int .i64 0, .slice none 0 0, .int .i64 0]) := T2
  obtain ⟨g, cap, rfl⟩ := due_shape hv
  have HV : Hid (Due w2 (.slice (some ⟨g, 0, none⟩) (n + 1) cap) s (n + 1)) := hv
  clear hb2 hv T2 c1 r1 f1
  have HA : Hid (Below w2.heap.size w2 (w2.alloc (.cells #[.int .i64 p, .int .i64 r, .int .i64 b, .int .i64 s, .int .i64 (n : Int), .slice (some ⟨g, 0, none⟩) (n + 1) cap] 80))) := (Below.refl _ _).alloc (Nat.le_refl _) _
  have HT3 : Hid (Two w (w2.alloc (.cells #[.int .i64 p, .int .i64 r, .int .i64 b, .int .i64 s, .int .i64 (n : Int), .slice (some ⟨g, 0, none⟩) (n + 1) cap] 80)) #[.int .i64 p, .int .i64 r, .int .i64 b, .int .i64 s, .int .i64 (n : Int)] #[.int .i64 0, .slice none 0 0, .int .i64 0]) := HT2.out.next HA.out
  have HV3 : Hid (Due (w2.alloc (.cells #[.int .i64 p, .int .i64 r, .int .i64 b, .int .i64 s, .int .i64 (n : Int), .slice (some ⟨g, 0, none⟩) (n + 1) cap] 80)) (.slice (some ⟨g, 0, none⟩) (n + 1) cap) s (n + 1)) := HV.out.below HA.out
  clear HT2 HA HV
  go_wp2_with fail
  refine (impl_inst HO.out HX.out _ _ (by exact HV3.out) (by exact HM.out.below HT3.out.bel) (by exact HL.out.below HT3.out.bel)).mono ?_
  rintro e w3 ⟨rfl, hb3⟩
  have hs3 : w2.heap.size + 1 ≤ w3.heap.size := by have := hb3.size; simpa using this
  have k3 : ∀ j, w3.cell? ⟨w2.heap.size, j, none⟩ = (#[.int .i64 p, .int .i64 r, .int .i64 b, .int .i64 s, .int .i64 (n : Int), .slice (some ⟨g, 0, none⟩) (n + 1) cap] : Array Value)[j]? := fun j => (hb3.cell (p := ⟨w2.heap.size, j, none⟩) (by simp)).trans (cell_new_at rfl j)
  have HT4 : Hid (Two w w3 #[.int .i64 p, .int .i64 r, .int .i64 b, .int .i64 s, .int .i64 (n : Int)] #[.int .i64 0, .slice none 0 0, .int .i64 0]) := HT3.out.next hb3
  have HV4 : Hid (Due w3 (.slice (some ⟨g, 0, none⟩) (n + 1) cap) s (n + 1)) := HV3.out.below hb3
  clear hb3 HT3 HV3
  go_wp2_with fail
  refine (impl_rows HO.out (pay := (X : Int)) (by omega) (by omega) _ _ HV4.out (by exact HM.out.below HT4.out.bel) (by exact HL.out.below HT4.out.bel)).mono ?_
  rintro e w4 ⟨u, rfl, hown, hb4⟩
  obtain ⟨gg, cp, rfl⟩ : ∃ gg cp, u = .slice (some ⟨gg, 0, none⟩) n cp := by
    rcases hown.2 with ⟨_, h0⟩ | ⟨gg, cp, _, e, _⟩
    · omega
    · exact ⟨gg, cp, e⟩
  have T5 := HT4.out.next hb4
  have r5 := T5.res
  have f5 := T5.fro
  have HT5 : Hid (Two w w4 #[.int .i64 p, .int .i64 r, .int .i64 b, .int .i64 s, .int .i64 (n : Int)] #[.int .i64 0, .slice none 0 0, .int .i64 0]) := T5
  have HOW : Hid (w4.ownsRow w3.heap.size 37 4 (.slice (some ⟨gg, 0, none⟩) n cp) n (rowsC p r b s X n)) := hown
  clear hb4 hown T5 k3
  go_wp2_with fail
  refine bodyPost_ret (v := .agg #[.int .i64 X, .slice (some ⟨gg, 0, none⟩) n cp, .int .i64 0]) ?_ rfl ⟨.slice (some ⟨gg, 0, none⟩) n cp, rfl, ?_, ?_⟩
  · simp [results, Tryd.results16, go_sem, r5]
  · have hlt : w.heap.size + 1 < w3.heap.size := by omega
    exact own_base (ownsRow_setCell_below (ownsRow_setCell_below (ownsRow_setCell_below HOW.out hlt _) hlt _) hlt _) (by omega)
  · exact ((HT5.out.bel.setCell (Nat.le_succ _) _).setCell (Nat.le_succ _) _).setCell (Nat.le_succ _) _

set_option maxRecDepth 100000 in
set_option maxHeartbeats 4000000 in
theorem spec_Plan_no (p r b s t : Int) (hr : loanB p r b s t = false) (w : World) :
    Calls Tryd.prog 17 #[.agg #[.int .i64 p, .int .i64 r, .int .i64 b, .int .i64 s, .int .i64 t]] w fun e w' => e = .returned (.agg #[.int .i64 0, .slice none 0 0, .int .i64 1]) ∧ Below w.heap.size w w' := by
  have H : Hid (loanB p r b s t = false) := hr
  clear hr
  go_enter Tryd.func17, Tryd.ntmps17
  go_wp2_with fail
  refine (spec_loanRight p r b s t _).mono ?_
  rintro e w1 ⟨rfl, hb1⟩
  have T1 := (two_new w #[.int .i64 p, .int .i64 r, .int .i64 b, .int .i64 s, .int .i64 t] #[.int .i64 0, .slice none 0 0, .int .i64 0] 24 34).next hb1
  rw [H.out]
  have c1 := T1.box
  have r1 := T1.res
  have f1 := T1.fro
  have HT : Hid (Two w w1 #[.int .i64 p, .int .i64 r, .int .i64 b, .int .i64 s, .int .i64 t] #[.int .i64 0, .slice none 0 0, .int .i64 0]) := T1
  clear hb1 T1
  go_wp2_with fail
  refine bodyPost_ret (v := .agg #[.int .i64 0, .slice none 0 0, .int .i64 1]) ?_ rfl ⟨rfl, ?_⟩
  · simp [results, Tryd.results17, go_sem, r1]
  · exact ((HT.out.bel.setCell (Nat.le_succ _) _).setCell (Nat.le_succ _) _).setCell (Nat.le_succ _) _

set_option maxRecDepth 100000 in
set_option maxHeartbeats 4000000 in
theorem spec_Plan_ok {p r b s : Int} {n : Nat} (h : LoanOk p r b s n) {X : Nat} (hX : IsInst p r b s n X) (w : World) :
    Calls Tryd.prog 17 #[.agg #[.int .i64 p, .int .i64 r, .int .i64 b, .int .i64 s, .int .i64 (n : Int)]] w fun e w' => ∃ u, e = .returned (.agg #[.int .i64 X, u, .int .i64 0]) ∧ w'.ownsRow w.heap.size 37 4 u n (rowsC p r b s X n) ∧ Below w.heap.size w w' := by
  have H : Hid (loanB p r b s n = true) := (loanB_iff _ _ _ _ _).2 h
  have t0 := h.t0
  have t1 := h.t1
  have X1 := hX.high
  have HO : Hid (LoanOk p r b s n) := h
  have HX : Hid (IsInst p r b s n X) := hX
  clear h hX
  obtain ⟨i0, hi, hz0, hz1, hz2⟩ := info_parts info45
  go_enter Tryd.func17, Tryd.ntmps17
  go_wp2_with fail
  refine (spec_loanRight p r b s (n : Int) _).mono ?_
  rintro e w1 ⟨rfl, hb1⟩
  have T1 := (two_new w #[.int .i64 p, .int .i64 r, .int .i64 b, .int .i64 s, .int .i64 (n : Int)] #[.int .i64 0, .slice none 0 0, .int .i64 0] 24 34).next hb1
  rw [H.out]
  have c1 := T1.box
  have r1 := T1.res
  have f1 := T1.fro
  have HT : Hid (Two w w1 #[.int .i64 p, .int .i64 r, .int .i64 b, .int .i64 s, .int .i64 (n : Int)] #[.int .i64 0, .slice none 0 0, .int .i64 0]) := T1
  clear hb1 T1
  go_wp2_with fail
  refine (spec_due HO.out _).mono ?_
  rintro e w2 ⟨v, rfl, hv, hb2⟩
  have T2 := HT.out.next hb2
  have c2 := T2.box
  have HT2 : Hid (Two w w2 #[.int .i64 p, .int .i64 r, .int .i64 b, .int .i64 s, .int .i64 (n : Int)] #[.int .i64 0, .slice none 0 0, .int .i64 0]) := T2
  have HV : Hid (Due w2 v s (n + 1)) := hv
  clear hb2 hv T2 c1 r1 f1
  go_wp2_with fail
  refine (spec_inst HO.out HX.out _ _ HV.out).mono ?_
  rintro e w3 ⟨rfl, hb3⟩
  have T3 := HT2.out.next hb3
  have c3 := T3.box
  have hs3 := T3.size
  have HT3 : Hid (Two w w3 #[.int .i64 p, .int .i64 r, .int .i64 b, .int .i64 s, .int .i64 (n : Int)] #[.int .i64 0, .slice none 0 0, .int .i64 0]) := T3
  have HV3 : Hid (Due w3 v s (n + 1)) := HV.out.below hb3
  clear hb3 T3 c2 HV HT2
  have hs3' : w.heap.size < w3.heap.size := by omega
  have hs3'' : w.heap.size + 1 < w3.heap.size := by omega
  go_wp2_with fail
  go_loopw [5, 6] (fun l i wr => ∃ (K : Nat) (u : Value), i = .int .i64 K ∧ 1 ≤ K ∧ K ≤ n + 1 ∧ l = .int .i64 (leftI p r b s X (K - 1)) ∧ wr.ownsRow (w3.heap.size + 1) 37 4 u (K - 1) (rowsC p r b s X (K - 1)) ∧ wr.cell? ⟨w3.heap.size, 0, none⟩ = some (.int .i64 X) ∧ wr.cell? ⟨w3.heap.size, 1, none⟩ = some u ∧ wr.cell? ⟨w3.heap.size, 2, none⟩ = some (.int .i64 0) ∧ (∀ j, wr.frozen? ⟨w3.heap.size, j, none⟩ = false) ∧ Below w3.heap.size w3 wr) (fun _ i _ => n + 1 - (intOf i).toNat)
  case atStart => exact ⟨1, .slice none 0 0, rfl, by omega, by omega, by rw [leftI_zero], World.ownsRow_nil _ _ _ _, by simp, by simp, by simp, fun j => frozen_new_at rfl j, (Below.refl _ _).alloc (Nat.le_refl _) _⟩
  case round =>
    obtain ⟨K, u, rfl, K0, K1, rfl, hown, e0, e1, e2, fr, hb⟩ := hrel
    have hq : w3.heap.size < wr.heap.size := World.block_lt_of_cell? wr _ e0
    have T := HT3.out.next hb
    have c := T.box
    have HT : Hid (Two w wr #[.int .i64 p, .int .i64 r, .int .i64 b, .int .i64 s, .int .i64 (n : Int)] #[.int .i64 0, .slice none 0 0, .int .i64 0]) := T
    have HV : Hid (Due wr v s (n + 1)) := HV3.out.below hb
    have HB : Hid (Below w3.heap.size w3 wr) := hb
    clear hb T c3
    by_cases hk : K ≤ n
    · have q0 : decide (K ≤ n) = true := by simpa using hk
      have q1 : decide ((K : Int) ≤ (n : Int)) = true := by simpa using hk
      obtain ⟨k, hKk⟩ : ∃ k, K - 1 = k := ⟨_, rfl⟩
      have hKe : K = k + 1 := by omega
      have hkn : k < n := by omega
      rw [hKk] at hown
      rw [hKk]
      obtain ⟨l0, l1⟩ := HO.out.small (pay := (X : Int)) (by omega) k (by omega)
      have HH := spec_row HO.out k K hKe (by omega) l0 l1 (pay := (X : Int)) (by omega) (by omega) n rfl v wr HV.out
      rw [rowV_at] at HH
      have HRC : Hid (rowC p r b s X k = [.int .i64 (dueI s (k + 1)), .int .i64 (intN r b s k (leftI p r b s X k)), .int .i64 (min X (leftI p r b s X k + intN r b s k (leftI p r b s X k))), .int .i64 (leftI p r b s X (k + 1))]) := rfl
      obtain ⟨l, hl⟩ : ∃ l, leftI p r b s X (k + 1) = l := ⟨_, rfl⟩
      obtain ⟨a, ha⟩ : ∃ a, leftI p r b s X k = a := ⟨_, rfl⟩
      have HLA : Hid (leftI p r b s X (k + 1) = l) := hl
      rw [hl, ha] at HH HRC
      rw [ha]
      generalize dueI s (k + 1) = y at HH HRC
      generalize intN r b s k a = i at HH HRC
      generalize min (X : Int) (a + i) = m at HH HRC
      have HH : Hid (Calls Tryd.prog 52 #[.agg #[.int .i64 p, .int .i64 r, .int .i64 b, .int .i64 s, .int .i64 (n : Int)], v, .int .i64 K, .int .i64 a, .int .i64 X] wr fun e w' => e = .returned (.agg #[.int .i64 y, .int .i64 i, .int .i64 m, .int .i64 l]) ∧ Below wr.heap.size wr w') := HH
      have HKe : Hid (K = k + 1) := hKe
      have HLT : Hid (∀ k', u.ownBlock = some k' → w3.heap.size + 1 ≤ k' ∧ k' < wr.heap.size) := hown.lt
      have HOW : Hid (wr.ownsRow (w3.heap.size + 1) 37 4 u k (rowsC p r b s X k)) := hown
      clear hl ha l0 l1 hKk hKe hown
      go_wp2_with fail
      refine HH.out.mono ?_
      rintro e w4 ⟨rfl, hb4⟩
      have hs4 : wr.heap.size ≤ w4.heap.size := hb4.size
      have hown4 := own_under HOW.out hb4
      have g0 : w4.cell? ⟨w3.heap.size, 0, none⟩ = some (.int .i64 X) := (hb4.cell (p := ⟨w3.heap.size, 0, none⟩) hq).trans e0
      have g1 : w4.cell? ⟨w3.heap.size, 1, none⟩ = some u := (hb4.cell (p := ⟨w3.heap.size, 1, none⟩) hq).trans e1
      have g2 : w4.cell? ⟨w3.heap.size, 2, none⟩ = some (.int .i64 0) := (hb4.cell (p := ⟨w3.heap.size, 2, none⟩) hq).trans e2
      have HF4 : Hid (∀ j, w4.frozen? ⟨w3.heap.size, j, none⟩ = false) := fun j => (hb4.frozen (p := ⟨w3.heap.size, j, none⟩) hq).trans (fr j)
      have HB4 : Hid (Below w3.heap.size w3 w4) := HB.out.trans (hb4.mono (by omega))
      have hq4 : w3.heap.size < w4.heap.size := by omega
      clear hb4 HH e0 e1 e2 fr c
      go_wp2_with (at_builtin; refine wpList_append_own _ rfl (.tmp 34) (.tmp 36) 32 rfl (w3.heap.size + 1) 37 i0 (.agg #[.int .i64 0, .int .i64 0, .int .i64 0, .int .i64 0]) 4 32 Tryd.underlying32 hi hz0 hz1 hz2 rfl (by decide) _ _ _ rfl ((hown4.alloc _).alloc _) ⟨w4.heap.size + 1, 0, none⟩ 1 1 [.int .i64 y, .int .i64 i, .int .i64 m, .int .i64 l] rfl rfl ?c1 ?c2 ?c3 ?c4 ?c5 ?_)
      case c1 => simpa using four_cells (w4.alloc (.cells #[.int .i64 y, .int .i64 i, .int .i64 m, .int .i64 l] 37)) (.int .i64 y) (.int .i64 i) (.int .i64 m) (.int .i64 l)
      case c2 => exact four_ones _ _ _ _
      case c3 => unfold maxLen; omega
      case c4 => omega
      case c5 => simp; omega
      intro u' w5 hown5 hg5 _
      obtain ⟨gg, cp, rfl⟩ : ∃ gg cp, u' = .slice (some ⟨gg, 0, none⟩) (k + 1) cp := by
        rcases hown5.2 with ⟨_, h0⟩ | ⟨gg, cp, _, e, _⟩
        · omega
        · exact ⟨gg, cp, e⟩
      have hne : some w3.heap.size ≠ u.ownBlock := fun e => by have := (HLT.out _ e.symm).1; omega
      have hne4 : some w4.heap.size ≠ u.ownBlock := fun e => by have := (HLT.out _ e.symm).2; omega
      have k0 : w5.cell? ⟨w3.heap.size, 0, none⟩ = some (.int .i64 X) := hg5.cell (a := ⟨w3.heap.size, 0, none⟩) (by simp [go_sem, hq4, g0]) hne
      have k1 : w5.cell? ⟨w3.heap.size, 1, none⟩ = some u := hg5.cell (a := ⟨w3.heap.size, 1, none⟩) (by simp [go_sem, hq4, g1]) hne
      have k2 : w5.cell? ⟨w3.heap.size, 2, none⟩ = some (.int .i64 0) := hg5.cell (a := ⟨w3.heap.size, 2, none⟩) (by simp [go_sem, hq4, g2]) hne
      have k3 : w5.cell? ⟨w4.heap.size, 3, none⟩ = some (.int .i64 l) := hg5.cell (a := ⟨w4.heap.size, 3, none⟩) (by simp [go_sem]) hne4
      have kf : ∀ j, w5.frozen? ⟨w3.heap.size, j, none⟩ = false := fun j => (hg5.frozen_far ⟨w3.heap.size, j, none⟩ (by simp; omega) hne).trans (by simp [go_sem, hq4, HF4.out j])
      have HB5 : Hid (Below w3.heap.size w3 w5) := ((HB4.out.alloc (by omega) _).alloc (by simp; omega) _).grown hg5 (by simp; omega) (fun k' hk' => by have := (HLT.out k' hk').1; omega)
      rw [← HRC.out] at hown5
      have HO5 : Hid (w5.ownsRow (w3.heap.size + 1) 37 4 (.slice (some ⟨gg, 0, none⟩) (k + 1) cp) (k + 1) (rowsC p r b s X (k + 1))) := hown5
      have hd : w3.heap.size ≠ w4.heap.size := by omega
      have hd' : w4.heap.size ≠ w3.heap.size := by omega
      clear hown5 hg5 hown4 g0 g1 g2 hne hne4
      go_wp2
      go_roundw
      case rel =>
        have hKe := HKe.out
        have hK2 : K + 1 - 1 = k + 1 := by omega
        refine ⟨K + 1, .slice (some ⟨gg, 0, none⟩) (k + 1) cp, by go_num, by omega, by omega, by rw [hK2, HLA.out], ?_, by simp [go_sem, k0], by simp [go_sem, k1], by simp [go_sem, k2], fun j => by simp [kf], HB5.out.setCell (Nat.le_refl _) _⟩
        rw [hK2]
        exact ownsRow_setCell_below HO5.out (by simp) _
      case measure => simp [intOf]; omega
    · have q0 : decide (K ≤ n) = false := by simpa using hk
      have q1 : decide ((K : Int) ≤ (n : Int)) = false := by simpa using hk
      obtain rfl : K = n + 1 := by omega
      have rr := HT.out.res
      have ff := HT.out.fro
      rw [Nat.add_sub_cancel] at hown
      obtain ⟨gg, cp, rfl⟩ : ∃ gg cp, u = .slice (some ⟨gg, 0, none⟩) n cp := by
        rcases hown.2 with ⟨_, h0⟩ | ⟨gg, cp, _, e, _⟩
        · omega
        · exact ⟨gg, cp, e⟩
      have HOW : Hid (wr.ownsRow (w3.heap.size + 1) 37 4 (.slice (some ⟨gg, 0, none⟩) n cp) n (rowsC p r b s X n)) := hown
      clear hown
      go_wp2_with fail
      refine bodyPost_ret (v := .agg #[.int .i64 X, .slice (some ⟨gg, 0, none⟩) n cp, .int .i64 0]) ?_ rfl ⟨.slice (some ⟨gg, 0, none⟩) n cp, rfl, ?_, ?_⟩
      · simp [results, Tryd.results17, go_sem, rr]
      · have hlt : w.heap.size + 1 < w3.heap.size + 1 := by omega
        exact own_base (ownsRow_setCell_below (ownsRow_setCell_below (ownsRow_setCell_below HOW.out hlt _) hlt _) hlt _) (by omega)
      · exact ((HT.out.bel.setCell (Nat.le_succ _) _).setCell (Nat.le_succ _) _).setCell (Nat.le_succ _) _

end Go.Proofs.YtmeffdggpdojhaaDoor
