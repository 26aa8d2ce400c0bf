/- Modules read: what the model's call does. -/
import Derived.Test.YtdbahildcecgbaaDoorMdW
import Derived.Maps.AppendAt
namespace Go.Proofs.YtdbahildcecgbaaDoor
open Go.RowKit
open Go.Proofs.YtdbahildcecgbaaDoor.Draw

/-- The model's reader after its k numbers, all its blocks being of the call's own. -/
def SpAt (b q : Nat) (s : ByteArray) (k : Nat) (w0 W : World) : Prop := ∃ p g c, RdSt s k p c ∧ (c = 0 → g = plc s (k - 1)) ∧ Bxs W b #[.string s, .int .i64 p, .int .i64 g, .int .i64 c] 34 ∧ Bxs W q #[.int .i64 (if c = 0 then -1 else p)] 2 ∧ Below w0.heap.size w0 W
theorem SpAt.set {b q k x j : Nat} {s : ByteArray} {w0 W : World} {v : Value} (h : SpAt b q s k w0 W) (h1 : b ≠ x) (h2 : q ≠ x) (h3 : w0.heap.size ≤ x) : SpAt b q s k w0 (W.setCell ⟨x, j, none⟩ v) := by
  obtain ⟨p, g, c, a1, a2, a3, a4, a5⟩ := h
  exact ⟨p, g, c, a1, a2, a3.other h1 j v, a4.other h2 j v, a5.setCell (p := ⟨x, j, none⟩) h3 v⟩
theorem SpAt.alloc {b q k : Nat} {s : ByteArray} {w0 W : World} (h : SpAt b q s k w0 W) (o : Obj) : SpAt b q s k w0 (W.alloc o) := by
  obtain ⟨p, g, c, a1, a2, a3, a4, a5⟩ := h
  exact ⟨p, g, c, a1, a2, a3.below ((Below.refl _ _).alloc (Nat.le_refl _) _), a4.below ((Below.refl _ _).alloc (Nat.le_refl _) _), a5.alloc a5.size o⟩
theorem SpAt.grown {b q k : Nat} {s : ByteArray} {w0 W W' : World} {row : Option Nat} (h : SpAt b q s k w0 W) (hg : W.grownBy W' row) (h1 : row ≠ some b) (h2 : row ≠ some q) (h3 : ∀ x, row = some x → w0.heap.size ≤ x) : SpAt b q s k w0 W' := by
  obtain ⟨p, g, c, a1, a2, a3, a4, a5⟩ := h
  exact ⟨p, g, c, a1, a2, a3.grown hg h1, a4.grown hg h2, a5.grown hg a5.size h3⟩
theorem Tn2.own {b q B e size n : Nat} {w w' : World} {v : Value} {xs : List Value} (h : Tn2 b q w w') (ho : w.ownsRow B e size v n xs) (h1 : b < B) (h2 : q < B) : w'.ownsRow B e size v n xs := by
  rcases ho with ⟨h0, h3 | ⟨g, cap, cur, rfl, hg0, hr, r⟩⟩
  · exact ⟨h0, Or.inl h3⟩
  · exact ⟨h0, Or.inr ⟨g, cap, cur, rfl, hg0, (h.block g (Array.getElem?_eq_some_iff.1 hr).1 (by omega) (by omega)).trans hr, r⟩⟩
theorem own_cell2 {w : World} {B e size n r j : Nat} {v u : Value} {xs : List Value} (h : w.ownsRow B e size v n xs) (hr : v.ownBlock ≠ some r) : (w.setCell ⟨r, j, none⟩ u).ownsRow B e size v n xs := h.kept (setGrown (World.grownBy.refl _ _)) (Or.inr hr)
theorem own_shape {w : World} {B e size n : Nat} {u : Value} {xs : List Value} (h : w.ownsRow B e size u n xs) (hn : 0 < n) : ∃ g cap, u = .slice (some ⟨g, 0, none⟩) n cap ∧ B ≤ g := by
  rcases h with ⟨_, ⟨_, h2⟩ | ⟨g, cap, cur, rfl, hg0, _⟩⟩
  · omega
  · exact ⟨g, cap, rfl, hg0⟩
set_option maxRecDepth 100000 in
set_option maxHeartbeats 32000000 in
theorem spec_moduleRead (s : ByteArray) (hs : s.size ≤ maxLen) (w : World) :
    Calls Tryd.prog 5 #[.string s] w (RdOut s w) := by
  unfold maxLen at hs
  have HR0 : Hid (Bxs (w.alloc (.cells #[.int .i64 0, .int .i64 0, .int .i64 0, .int .i64 0, .slice none 0 0, .int .i64 0, .int .i64 0] 26)) w.heap.size #[.int .i64 0, .int .i64 0, .int .i64 0, .int .i64 0, .slice none 0 0, .int .i64 0, .int .i64 0] 26) := Bxs.new _ _ _
  have HB0 : Hid (Below w.heap.size w (w.alloc (.cells #[.int .i64 0, .int .i64 0, .int .i64 0, .int .i64 0, .slice none 0 0, .int .i64 0, .int .i64 0] 26))) := (Below.refl _ _).alloc (Nat.le_refl _) _
  by_cases hsz : 20000 < s.size
  · have q0 : decide (20000 < s.size) = true := by simpa using hsz
    have q1 : decide ((20000 : Int) < (s.size : Int)) = true := by simp; omega
    obtain ⟨R0, hR0⟩ : ∃ R, R = w.heap.size := ⟨_, rfl⟩
    have HZ : Hid (∀ At Cd W, ResIs s 0 0 0 0 0 At Cd → Below R0 w W → RdOut s w (.returned (.agg #[.int .i64 0, .int .i64 0, .int .i64 0, .int .i64 0, .slice none 0 0, .int .i64 (At), .int .i64 (Cd)])) W) := fun At Cd W h hb => RdOut.nil h (hR0 ▸ hb)
    have HS : Hid (ResIs s 0 0 0 0 0 0 2) := Or.inl ⟨hsz, rfl, rfl, rfl, rfl, rfl, rfl, rfl⟩
    go_enter Tryd.func5, Tryd.ntmps5
    go_upto_region 1 with fail
    obtain ⟨w0, hw0⟩ : ∃ W, W = w.alloc (.cells #[.int .i64 0, .int .i64 0, .int .i64 0, .int .i64 0, .slice none 0 0, .int .i64 0, .int .i64 0] 26) := ⟨_, rfl⟩
    rw [← hw0] at HR0 HB0 ⊢
    rw [← hR0] at HR0 HB0 ⊢
    clear hw0 hR0
    have HR : Hid (Bxs w0 R0 #[.int .i64 0, .int .i64 0, .int .i64 0, .int .i64 0, .slice none 0 0, .int .i64 0, .int .i64 0] 26) := HR0.out
    have HB : Hid (Below R0 w w0) := HB0.out
    have r0 := HR.out.cell 0
    have r1 := HR.out.cell 1
    have r2 := HR.out.cell 2
    have r3 := HR.out.cell 3
    have r4 := HR.out.cell 4
    have r5 := HR.out.cell 5
    have r6 := HR.out.cell 6
    simp at r0 r1 r2 r3 r4 r5 r6
    have rf : ∀ j, w0.frozen? ⟨R0, j, none⟩ = false := fun j => HR.out.fz j
    go_wp2_with fail
    refine bodyPost_ret (v := .agg #[.int .i64 0, .int .i64 0, .int .i64 0, .int .i64 0, .slice none 0 0, .int .i64 (0), .int .i64 (2)]) ?_ rfl (HZ.out _ _ _ HS.out ?_)
    · simp [results, Tryd.results5, go_sem, r0, r1, r2, r3, r4, r5, r6]
    · repeat refine bl_set ?_ _ _
      exact HB.out
  · have q0 : decide (20000 < s.size) = false := by simpa using hsz
    have q1 : decide ((20000 : Int) < (s.size : Int)) = false := by simp; omega
    have hsz' : s.size ≤ 20000 := by omega
    obtain ⟨R0, hR0⟩ : ∃ R, R = w.heap.size := ⟨_, rfl⟩
    have HZ : Hid (∀ At Cd W, ResIs s 0 0 0 0 0 At Cd → Below R0 w W → RdOut s w (.returned (.agg #[.int .i64 0, .int .i64 0, .int .i64 0, .int .i64 0, .slice none 0 0, .int .i64 (At), .int .i64 (Cd)])) W) := fun At Cd W h hb => RdOut.nil h (hR0 ▸ hb)
    have HRI : Hid (∀ y0 y1 y2 y3 m At Cd, (∃ (k : Nat) (p c : Int), RdEnd s k p c ∧ ((c ≠ 0 ∧ y0 = 0 ∧ y1 = 0 ∧ y2 = 0 ∧ y3 = 0 ∧ m = 0 ∧ At = p ∧ Cd = c) ∨
     (c = 0 ∧ p < s.size ∧ y0 = 0 ∧ y1 = 0 ∧ y2 = 0 ∧ y3 = 0 ∧ m = 0 ∧ At = p ∧ Cd = 3) ∨
     (c = 0 ∧ ¬ p < s.size ∧ ¬ ModP (vlu s 0) (vlu s 1) (vlu s 2) (vlu s 3) k (rowL s) ∧ y0 = 0 ∧ y1 = 0 ∧ y2 = 0 ∧ y3 = 0 ∧ m = 0 ∧ At = 0 ∧ Cd = 1) ∨
     (c = 0 ∧ ¬ p < s.size ∧ ModP (vlu s 0) (vlu s 1) (vlu s 2) (vlu s 3) k (rowL s) ∧ y0 = vlu s 0 ∧ y1 = vlu s 1 ∧ y2 = vlu s 2 ∧ y3 = vlu s 3 ∧ m = k ∧ At = 0 ∧ Cd = 0))) → ResIs s y0 y1 y2 y3 m At Cd) := fun y0 y1 y2 y3 m At Cd h => Or.inr ⟨hsz', h⟩
    have HSP : Hid (∀ (z0 z1 z2 z3 : Int) (g m cap : Nat) W, m ≤ 9223372036854775807 → InsAt W (some ⟨g, 0, none⟩) m (rowL s) → Calls Tryd.prog 13 #[.agg #[.int .i64 z0, .int .i64 z1, .int .i64 z2, .int .i64 z3, .slice (some ⟨g, 0, none⟩) m cap]] W (ModOut z0 z1 z2 z3 m (rowL s) W)) := fun z0 z1 z2 z3 g m cap W hm h => spec_modRight z0 z1 z2 z3 g m cap hm (rowL s) W h
    go_enter Tryd.func5, Tryd.ntmps5
    go_upto_region 1 with fail
    obtain ⟨w0, hw0⟩ : ∃ W, W = w.alloc (.cells #[.int .i64 0, .int .i64 0, .int .i64 0, .int .i64 0, .slice none 0 0, .int .i64 0, .int .i64 0] 26) := ⟨_, rfl⟩
    rw [← hw0] at HR0 HB0 ⊢
    rw [← hR0] at HR0 HB0 ⊢
    have hRs : R0 + 1 = w0.heap.size := by subst hw0; simp; omega
    have HRR : Hid (R0 = w.heap.size) := hR0
    have HNUM : Hid (∀ b q k W, b ≠ q → w0.heap.size ≤ b → w0.heap.size ≤ q → SpAt b q s k w0 W → Calls Tryd.prog 12 #[.pointer (some ⟨b, 0, none⟩), .pointer (some ⟨q, 0, none⟩)] W fun e w' => e = .returned (.int .i64 (vlu s k)) ∧ SpAt b q s (k + 1) w0 w' ∧ Tn2 b q W w') := fun b q k W hbq h1 h2 h => by
      obtain ⟨p, g, c, a1, a2, a3, a4, a5⟩ := h
      refine (spec_l10num s k p g c hsz' a1 b q hbq W a3 a4).mono ?_
      rintro e w' ⟨rfl, p', g', c', d1, d2, d3, d4, d5⟩
      exact ⟨rfl, ⟨p', g', c', d1, d2, d3, d4, a5.trans (d5.to h1 h2 a5.size)⟩, d5⟩
    clear hw0 hR0
    go_upto_region 6 with fail
    obtain ⟨b, hb⟩ : ∃ b, b = w0.heap.size := ⟨_, rfl⟩
    obtain ⟨Mb, hMM⟩ : ∃ b, b = w0.heap.size + 1 := ⟨_, rfl⟩
    obtain ⟨q, hqq⟩ : ∃ b, b = w0.heap.size + 1 + 1 := ⟨_, rfl⟩
    have HX1 : Bxs (((w0.alloc (.cells #[.string s, .int .i64 0, .int .i64 0, .int .i64 0] 34)).alloc (.cells #[.int .i64 0, .int .i64 0, .int .i64 0, .int .i64 0, .slice none 0 0] 24)).alloc (.cells #[.int .i64 (-1)] 2)) b #[.string s, .int .i64 0, .int .i64 0, .int .i64 0] 34 := bx_under (bx_under (bx_at hb) _) _
    have HM1 : Bxs (((w0.alloc (.cells #[.string s, .int .i64 0, .int .i64 0, .int .i64 0] 34)).alloc (.cells #[.int .i64 0, .int .i64 0, .int .i64 0, .int .i64 0, .slice none 0 0] 24)).alloc (.cells #[.int .i64 (-1)] 2)) Mb #[.int .i64 0, .int .i64 0, .int .i64 0, .int .i64 0, .slice none 0 0] 24 := bx_under (bx_at (by simp; omega)) _
    have HQ1 : Bxs (((w0.alloc (.cells #[.string s, .int .i64 0, .int .i64 0, .int .i64 0] 34)).alloc (.cells #[.int .i64 0, .int .i64 0, .int .i64 0, .int .i64 0, .slice none 0 0] 24)).alloc (.cells #[.int .i64 (-1)] 2)) q #[.int .i64 (-1)] 2 := bx_at (by simp; omega)
    have HW1 : Below w0.heap.size w0 (((w0.alloc (.cells #[.string s, .int .i64 0, .int .i64 0, .int .i64 0] 34)).alloc (.cells #[.int .i64 0, .int .i64 0, .int .i64 0, .int .i64 0, .slice none 0 0] 24)).alloc (.cells #[.int .i64 (-1)] 2)) := ((((Below.refl _ _).alloc (Nat.le_refl _) _).alloc (by simp) _).alloc (by simp; omega) _)
    rw [← hqq, ← hMM, ← hb]
    obtain ⟨w1, hw1⟩ : ∃ W, W = ((w0.alloc (.cells #[.string s, .int .i64 0, .int .i64 0, .int .i64 0] 34)).alloc (.cells #[.int .i64 0, .int .i64 0, .int .i64 0, .int .i64 0, .slice none 0 0] 24)).alloc (.cells #[.int .i64 (-1)] 2) := ⟨_, rfl⟩
    rw [← hw1] at HX1 HM1 HQ1 HW1 ⊢
    have hbq : b ≠ q := by omega
    have hMb : Mb ≠ b := by omega
    have hMq : Mb ≠ q := by omega
    have hb0 : w0.heap.size ≤ b := by omega
    have hq0 : w0.heap.size ≤ q := by omega
    have hM0 : w0.heap.size ≤ Mb := by omega
    have hMB : Mb < q := by omega
    have hbB : b < q := by omega
    have H : Hid (SpAt b q s 0 w0 w1) := ⟨0, 0, 0, RdSt.zero s, fun _ => rfl, HX1, HQ1, HW1⟩
    have HM : Hid (Bxs w1 Mb #[.int .i64 0, .int .i64 0, .int .i64 0, .int .i64 0, .slice none 0 0] 24) := HM1
    clear hw1 HX1 HM1 HQ1 HW1 hb hMM hqq
    go_wp2_with fail
    refine (HNUM.out b q 0 _ hbq hb0 hq0 H.out).mono ?_
    rintro e w2 ⟨rfl, h, t⟩
    have HM : Hid (Bxs w2 Mb #[.int .i64 0, .int .i64 0, .int .i64 0, .int .i64 0, .slice none 0 0] 24) := t.bx HM.out hMb hMq
    generalize vlu s 0 = z0 at *
    have y0 : w2.cell? ⟨Mb, 0, none⟩ = some (.int .i64 0) := HM.out.cell 0
    have f0 : w2.frozen? ⟨Mb, 0, none⟩ = false := HM.out.fz 0
    have H : Hid (SpAt b q s (0 + 1) w0 (w2.setCell ⟨Mb, 0, none⟩ (.int .i64 z0))) := h.set (Ne.symm hMb) (Ne.symm hMq) hM0
    have HM : Hid (Bxs (w2.setCell ⟨Mb, 0, none⟩ (.int .i64 z0)) Mb #[.int .i64 z0, .int .i64 0, .int .i64 0, .int .i64 0, .slice none 0 0] 24) := HM.out.set 0 _
    clear h t
    go_wp2_with fail
    refine (HNUM.out b q 1 _ hbq hb0 hq0 H.out).mono ?_
    rintro e w3 ⟨rfl, h, t⟩
    have HM : Hid (Bxs w3 Mb #[.int .i64 z0, .int .i64 0, .int .i64 0, .int .i64 0, .slice none 0 0] 24) := t.bx HM.out hMb hMq
    generalize vlu s 1 = z1 at *
    have y1 : w3.cell? ⟨Mb, 1, none⟩ = some (.int .i64 0) := HM.out.cell 1
    have f1 : w3.frozen? ⟨Mb, 1, none⟩ = false := HM.out.fz 1
    have H : Hid (SpAt b q s (1 + 1) w0 (w3.setCell ⟨Mb, 1, none⟩ (.int .i64 z1))) := h.set (Ne.symm hMb) (Ne.symm hMq) hM0
    have HM : Hid (Bxs (w3.setCell ⟨Mb, 1, none⟩ (.int .i64 z1)) Mb #[.int .i64 z0, .int .i64 z1, .int .i64 0, .int .i64 0, .slice none 0 0] 24) := HM.out.set 1 _
    clear h t
    go_wp2_with fail
    refine (HNUM.out b q 2 _ hbq hb0 hq0 H.out).mono ?_
    rintro e w4 ⟨rfl, h, t⟩
    have HM : Hid (Bxs w4 Mb #[.int .i64 z0, .int .i64 z1, .int .i64 0, .int .i64 0, .slice none 0 0] 24) := t.bx HM.out hMb hMq
    generalize vlu s 2 = z2 at *
    have y2 : w4.cell? ⟨Mb, 2, none⟩ = some (.int .i64 0) := HM.out.cell 2
    have f2 : w4.frozen? ⟨Mb, 2, none⟩ = false := HM.out.fz 2
    have H : Hid (SpAt b q s (2 + 1) w0 (w4.setCell ⟨Mb, 2, none⟩ (.int .i64 z2))) := h.set (Ne.symm hMb) (Ne.symm hMq) hM0
    have HM : Hid (Bxs (w4.setCell ⟨Mb, 2, none⟩ (.int .i64 z2)) Mb #[.int .i64 z0, .int .i64 z1, .int .i64 z2, .int .i64 0, .slice none 0 0] 24) := HM.out.set 2 _
    clear h t
    go_wp2_with fail
    refine (HNUM.out b q 3 _ hbq hb0 hq0 H.out).mono ?_
    rintro e w5 ⟨rfl, h, t⟩
    have HM : Hid (Bxs w5 Mb #[.int .i64 z0, .int .i64 z1, .int .i64 z2, .int .i64 0, .slice none 0 0] 24) := t.bx HM.out hMb hMq
    generalize vlu s 3 = z3 at *
    have y3 : w5.cell? ⟨Mb, 3, none⟩ = some (.int .i64 0) := HM.out.cell 3
    have f3 : w5.frozen? ⟨Mb, 3, none⟩ = false := HM.out.fz 3
    have H : Hid (SpAt b q s (3 + 1) w0 (w5.setCell ⟨Mb, 3, none⟩ (.int .i64 z3))) := h.set (Ne.symm hMb) (Ne.symm hMq) hM0
    have HM : Hid (Bxs (w5.setCell ⟨Mb, 3, none⟩ (.int .i64 z3)) Mb #[.int .i64 z0, .int .i64 z1, .int .i64 z2, .int .i64 z3, .slice none 0 0] 24) := HM.out.set 3 _
    clear h t
    go_wp2_with fail
    refine (HNUM.out b q 4 _ hbq hb0 hq0 H.out).mono ?_
    rintro e w6 ⟨rfl, h, t⟩
    have HM : Hid (Bxs w6 Mb #[.int .i64 z0, .int .i64 z1, .int .i64 z2, .int .i64 z3, .slice none 0 0] 24) := t.bx HM.out hMb hMq
    have HS5 : Hid (SpAt b q s (4 + 1) w0 w6) := h
    obtain ⟨p, g, c, hst, hgg, hxb, hxq, hbl⟩ := h
    have x1 : w6.cell? ⟨b, 1, none⟩ = some (.int .i64 p) := hxb.cell 1
    have x2 : w6.cell? ⟨b, 2, none⟩ = some (.int .i64 g) := hxb.cell 2
    have x3 : w6.cell? ⟨b, 3, none⟩ = some (.int .i64 c) := hxb.cell 3
    have xq : w6.cell? ⟨q, 0, none⟩ = some (.int .i64 (if c = 0 then -1 else p)) := hxq.cell 0
    have HR : Hid (Bxs w6 R0 #[.int .i64 0, .int .i64 0, .int .i64 0, .int .i64 0, .slice none 0 0, .int .i64 0, .int .i64 0] 26) := HR0.out.below hbl
    have HB : Hid (Below R0 w w6) := HB0.out.trans (hbl.mono (by omega))
    have HST : Hid (RdSt s 5 p c) := hst
    have HVL : Hid (((∀ i, i < 5 → cod s i = 0) → vlu s 4 = num s 4) ∧ (¬ (∀ i, i < 5 → cod s i = 0) → vlu s 4 = 0)) := ⟨fun h => by unfold vlu; rw [if_pos h], fun h => by unfold vlu; rw [if_neg h]⟩
    have HGG : Hid (c = 0 → g = plc s 4) := hgg
    clear t hst hgg hxb hxq hbl H
    generalize vlu s 4 = n at *
    by_cases hc : c = 0
    · have hgood := HST.out.good.1 hc
      have hn : n = num s 4 := HVL.out.1 hgood
      have qc : (c == 0) = true := by simpa using hc
      by_cases hr : 1 ≤ n ∧ n ≤ 2000
      · obtain ⟨i0, hi, hz0, hz1, hz2⟩ := info_parts infoInsU
        obtain ⟨N, rfl⟩ : ∃ N : Nat, n = N := ⟨n.toNat, by omega⟩
        have HGD : Hid (∀ i, i < 5 → cod s i = 0) := hgood
        have HNN : Hid ((N : Int) = num s 4) := hn
        have hN1 : 1 ≤ N := by omega
        have hN2 : N ≤ 2000 := by omega
        have qd : decide ((N : Int) < 1) = false := by simp; omega
        have qe : decide (2000 < (N : Int)) = false := by simp; omega
        have qd' : decide (N < 1) = false := by simp; omega
        have qe' : decide (2000 < N) = false := by simp; omega
        have H6 : Hid (SpAt b q s (5 + 3 * 0) w0 w6 ∧ ∃ v, Bxs w6 Mb #[.int .i64 z0, .int .i64 z1, .int .i64 z2, .int .i64 z3, v] 24 ∧ w6.ownsRow (q + 1) 38 3 v 0 (insC (rowL s) 0)) := ⟨HS5.out, _, HM.out, World.ownsRow_nil _ _ _ _⟩
        clear hgood hn hr HST
        go_wp2_with fail
        go_loopw [7] (fun i wr => ∃ k : Nat, i = .int .i64 (k : Int) ∧ k ≤ N ∧ Hid (SpAt b q s (5 + 3 * k) w0 wr ∧ ∃ v, Bxs wr Mb #[.int .i64 z0, .int .i64 z1, .int .i64 z2, .int .i64 z3, v] 24 ∧ wr.ownsRow (q + 1) 38 3 v k (insC (rowL s) k))) (fun i _ => N - (intOf i).toNat)
        case atStart => exact ⟨0, rfl, by omega, H6⟩
        case round =>
          clear H6 HR HB x1 x2 x3 xq qc
          obtain ⟨k, rfl, hk, HL⟩ := hrel
          obtain ⟨hsp, v, hm, hown⟩ := HL.out
          have HSk : Hid (SpAt b q s (5 + 3 * k) w0 wr) := hsp
          have HMk : Hid (Bxs wr Mb #[.int .i64 z0, .int .i64 z1, .int .i64 z2, .int .i64 z3, v] 24) := hm
          have HOk : Hid (wr.ownsRow (q + 1) 38 3 v k (insC (rowL s) k)) := hown
          obtain ⟨p1, g1, c1, hst, hgg, hxb, hxq, hbl⟩ := hsp
          have x1 : wr.cell? ⟨b, 1, none⟩ = some (.int .i64 p1) := hxb.cell 1
          have x2 : wr.cell? ⟨b, 2, none⟩ = some (.int .i64 g1) := hxb.cell 2
          have x3 : wr.cell? ⟨b, 3, none⟩ = some (.int .i64 c1) := hxb.cell 3
          have xq : wr.cell? ⟨q, 0, none⟩ = some (.int .i64 (if c1 = 0 then -1 else p1)) := hxq.cell 0
          have HR : Hid (Bxs wr R0 #[.int .i64 0, .int .i64 0, .int .i64 0, .int .i64 0, .slice none 0 0, .int .i64 0, .int .i64 0] 26) := HR0.out.below hbl
          have HB : Hid (Below R0 w wr) := HB0.out.trans (hbl.mono (by omega))
          have HST : Hid (RdSt s (5 + 3 * k) p1 c1) := hst
          clear hm hown hst hgg hxb hxq hbl HL
          by_cases hkn : k < N
          · have q0' : decide (k < N) = true := by simpa using hkn
            have q1' : decide ((k : Int) < (N : Int)) = true := by simpa using hkn
            by_cases hc1 : c1 = 0
            · have qc : (c1 == 0) = true := by simpa using hc1
              have HRK : Hid (rowL s k = ⟨vlu s (5 + 3 * k), vlu s (5 + 3 * k + 1), vlu s (5 + 3 * k + 1 + 1)⟩) := rfl
              have hd4 : wr.cell? ⟨Mb, 4, none⟩ = some v := HMk.out.cell 4
              clear HST HR HB x1 x2 xq
              go_wp2_with fail
              refine (HNUM.out b q (5 + 3 * k) _ hbq hb0 hq0 HSk.out).mono ?_
              rintro e w7 ⟨rfl, h7, t7⟩
              have M7 : Hid (Bxs w7 Mb #[.int .i64 z0, .int .i64 z1, .int .i64 z2, .int .i64 z3, v] 24) := t7.bx HMk.out hMb hMq
              have O7 : Hid (w7.ownsRow (q + 1) 38 3 v k (insC (rowL s) k)) := t7.own HOk.out (by omega) (by omega)
              have H7 : Hid (SpAt b q s (5 + 3 * k + 1) w0 w7) := h7
              obtain ⟨X, hX⟩ : ∃ X, X = w7.heap.size := ⟨_, rfl⟩
              have hqX : q < X := by
                obtain ⟨_, _, _, _, _, _, h, _⟩ := h7
                have := h.lt
                omega
              have hvX : v.ownBlock ≠ some X := fun e => by have := (O7.out.lt _ e).2; omega
              have hX0 : w0.heap.size ≤ X := by omega
              have hXb : X ≠ b := by omega
              have hXq : X ≠ q := by omega
              have hXM : X ≠ Mb := by omega
              clear h7 t7 HSk HMk HOk hd4
              generalize vlu s (5 + 3 * k) = u0 at *
              have X8 : Hid (Bxs (w7.alloc (.cells #[.int .i64 u0, .int .i64 0, .int .i64 0] 38)) X #[.int .i64 u0, .int .i64 0, .int .i64 0] 38) := bx_at hX
              have M8 : Hid (Bxs (w7.alloc (.cells #[.int .i64 u0, .int .i64 0, .int .i64 0] 38)) Mb #[.int .i64 z0, .int .i64 z1, .int .i64 z2, .int .i64 z3, v] 24) := bx_under M7.out _
              have O8 : Hid ((w7.alloc (.cells #[.int .i64 u0, .int .i64 0, .int .i64 0] 38)).ownsRow (q + 1) 38 3 v k (insC (rowL s) k)) := O7.out.alloc _
              have H8 : Hid (SpAt b q s (5 + 3 * k + 1) w0 (w7.alloc (.cells #[.int .i64 u0, .int .i64 0, .int .i64 0] 38))) := H7.out.alloc _
              go_upto_region 17 with fail
              obtain ⟨w8, hw8⟩ : ∃ W, W = w7.alloc (.cells #[.int .i64 u0, .int .i64 0, .int .i64 0] 38) := ⟨_, rfl⟩
              rw [← hw8] at X8 M8 O8 H8 ⊢
              rw [← hX]
              clear hw8 hX M7 O7 H7
              go_wp2_with fail
              refine (HNUM.out b q (5 + 3 * k + 1) _ hbq hb0 hq0 H8.out).mono ?_
              rintro e w9 ⟨rfl, h9, t9⟩
              have X9 : Hid (Bxs w9 X #[.int .i64 u0, .int .i64 0, .int .i64 0] 38) := t9.bx X8.out hXb hXq
              have M9 : Hid (Bxs w9 Mb #[.int .i64 z0, .int .i64 z1, .int .i64 z2, .int .i64 z3, v] 24) := t9.bx M8.out hMb hMq
              have O9 : Hid (w9.ownsRow (q + 1) 38 3 v k (insC (rowL s) k)) := t9.own O8.out (by omega) (by omega)
              generalize vlu s (5 + 3 * k + 1) = u1 at *
              have x9 : w9.cell? ⟨X, 1, none⟩ = some (.int .i64 0) := X9.out.cell 1
              have f9 : w9.frozen? ⟨X, 1, none⟩ = false := X9.out.fz 1
              have HA : Hid (SpAt b q s (5 + 3 * k + 1 + 1) w0 (w9.setCell ⟨X, 1, none⟩ (.int .i64 u1))) := h9.set (Ne.symm hXb) (Ne.symm hXq) hX0
              have XA : Hid (Bxs (w9.setCell ⟨X, 1, none⟩ (.int .i64 u1)) X #[.int .i64 u0, .int .i64 u1, .int .i64 0] 38) := X9.out.set 1 _
              have MA : Hid (Bxs (w9.setCell ⟨X, 1, none⟩ (.int .i64 u1)) Mb #[.int .i64 z0, .int .i64 z1, .int .i64 z2, .int .i64 z3, v] 24) := M9.out.other (Ne.symm hXM) 1 _
              have OA : Hid ((w9.setCell ⟨X, 1, none⟩ (.int .i64 u1)).ownsRow (q + 1) 38 3 v k (insC (rowL s) k)) := own_cell2 O9.out hvX
              clear h9 t9 X8 M8 O8 H8 X9 M9 O9
              go_wp2_with fail
              refine (HNUM.out b q (5 + 3 * k + 1 + 1) _ hbq hb0 hq0 HA.out).mono ?_
              rintro e wB ⟨rfl, hB', tB⟩
              have XB : Hid (Bxs wB X #[.int .i64 u0, .int .i64 u1, .int .i64 0] 38) := tB.bx XA.out hXb hXq
              have MB : Hid (Bxs wB Mb #[.int .i64 z0, .int .i64 z1, .int .i64 z2, .int .i64 z3, v] 24) := tB.bx MA.out hMb hMq
              have OB : Hid (wB.ownsRow (q + 1) 38 3 v k (insC (rowL s) k)) := tB.own OA.out (by omega) (by omega)
              generalize vlu s (5 + 3 * k + 1 + 1) = u2 at *
              have xB : wB.cell? ⟨X, 2, none⟩ = some (.int .i64 0) := XB.out.cell 2
              have fB : wB.frozen? ⟨X, 2, none⟩ = false := XB.out.fz 2
              have HC : Hid (SpAt b q s (5 + 3 * k + 1 + 1 + 1) w0 (wB.setCell ⟨X, 2, none⟩ (.int .i64 u2))) := hB'.set (Ne.symm hXb) (Ne.symm hXq) hX0
              have XC : Hid (Bxs (wB.setCell ⟨X, 2, none⟩ (.int .i64 u2)) X #[.int .i64 u0, .int .i64 u1, .int .i64 u2] 38) := XB.out.set 2 _
              have MC : Hid (Bxs (wB.setCell ⟨X, 2, none⟩ (.int .i64 u2)) Mb #[.int .i64 z0, .int .i64 z1, .int .i64 z2, .int .i64 z3, v] 24) := MB.out.other (Ne.symm hXM) 2 _
              have OC : Hid ((wB.setCell ⟨X, 2, none⟩ (.int .i64 u2)).ownsRow (q + 1) 38 3 v k (insC (rowL s) k)) := own_cell2 OB.out hvX
              clear hB' tB XA MA OA HA XB MB OB
              go_upto_region 19 with fail
              obtain ⟨wC, hwC⟩ : ∃ W, W = wB.setCell ⟨X, 2, none⟩ (.int .i64 u2) := ⟨_, rfl⟩
              rw [← hwC] at HC XC MC OC ⊢
              clear hwC xB fB x9 f9
              have d0 : wC.cell? ⟨X, 0, none⟩ = some (.int .i64 u0) := XC.out.cell 0
              have d1 : wC.cell? ⟨X, 1, none⟩ = some (.int .i64 u1) := XC.out.cell 1
              have d2 : wC.cell? ⟨X, 2, none⟩ = some (.int .i64 u2) := XC.out.cell 2
              have d4 : wC.cell? ⟨Mb, 4, none⟩ = some v := MC.out.cell 4
              have f4 : wC.frozen? ⟨Mb, 4, none⟩ = false := MC.out.fz 4
              have hqC : q < wC.heap.size := by
                obtain ⟨_, _, _, _, _, _, h, _⟩ := HC.out
                exact h.lt
              go_wp2_with (at_builtin; refine wpList_append_own _ rfl (.tmp 71) (.tmp 73) 22 rfl (q + 1) 38 i0 (.agg #[.int .i64 0, .int .i64 0, .int .i64 0]) 3 24 Tryd.underlying22 hi hz0 hz1 hz2 rfl (by decide) _ k _ rfl (OC.out.alloc _) ⟨wC.heap.size, 0, none⟩ 1 1 [.int .i64 u0, .int .i64 u1, .int .i64 u2] rfl rfl ?c1 ?c2 ?c3 ?c4 ?c5 ?_)
              case c1 => exact news3 wC _ _ _
              case c2 => exact ones3 _ _ _
              case c3 => unfold maxLen; omega
              case c4 => omega
              case c5 => simp; omega
              rintro v' wD hown hgD hnil
              obtain ⟨g2, cap2, rfl, _⟩ := own_shape hown (by omega)
              have hrow : ∀ x, v.ownBlock = some x → q + 1 ≤ x := fun x e => (OC.out.lt x e).1
              have HN : Hid (SpAt b q s (5 + 3 * (k + 1)) w0 (wD.setCell ⟨Mb, 4, none⟩ (.slice (some ⟨g2, 0, none⟩) (k + 1) cap2)) ∧ ∃ v, Bxs (wD.setCell ⟨Mb, 4, none⟩ (.slice (some ⟨g2, 0, none⟩) (k + 1) cap2)) Mb #[.int .i64 z0, .int .i64 z1, .int .i64 z2, .int .i64 z3, v] 24 ∧ (wD.setCell ⟨Mb, 4, none⟩ (.slice (some ⟨g2, 0, none⟩) (k + 1) cap2)).ownsRow (q + 1) 38 3 v (k + 1) (insC (rowL s) (k + 1))) := by
                refine ⟨?_, .slice (some ⟨g2, 0, none⟩) (k + 1) cap2, ?_, ?_⟩
                · exact (((HC.out.alloc _).grown hgD (fun e => by have := hrow _ e; omega) (fun e => by have := hrow _ e; omega) (fun x e => by have := hrow _ e; omega)).set (Ne.symm hMb) (Ne.symm hMq) hM0)
                · exact ((bx_under MC.out _).grown hgD (fun e => by have := hrow _ e; omega)).set 4 _
                · have hL : insC (rowL s) (k + 1) = insC (rowL s) k ++ [.int .i64 u0, .int .i64 u1, .int .i64 u2] := by
                    rw [insC, HRK.out]
                    rfl
                  rw [hL]
                  exact own_set hown (by omega)
              have d5 : wD.cell? ⟨Mb, 4, none⟩ = some v := ((bx_under MC.out _).grown hgD (fun e => by have := hrow _ e; omega)).cell 4
              have f5 : wD.frozen? ⟨Mb, 4, none⟩ = false := ((bx_under MC.out _).grown hgD (fun e => by have := hrow _ e; omega)).fz 4
              clear hown hgD hnil hrow HC XC MC OC d0 d1 d2 d4 f4
              go_wp2_with fail
              go_roundw
              case rel => exact ⟨k + 1, by go_num, by omega, HN⟩
              case measure => simp [intOf]; omega
            · have qc : (c1 == 0) = false := by simpa using hc1
              have qc2 : (c1 != 0) = true := by simpa using hc1
              have HS : Hid (ResIs s 0 0 0 0 0 p1 c1) := HRI.out _ _ _ _ _ _ _ ⟨0, p1, c1, Or.inr (Or.inr ⟨5 + 3 * k, HST.out, hc1, Or.inr ⟨HGD.out, by have := HNN.out; omega, by have := HNN.out; omega, by have := HNN.out; omega⟩⟩), Or.inl ⟨hc1, rfl, rfl, rfl, rfl, rfl, rfl, rfl⟩⟩
              rw [if_neg hc1] at xq
              have r0 := HR.out.cell 0
              have r1 := HR.out.cell 1
              have r2 := HR.out.cell 2
              have r3 := HR.out.cell 3
              have r4 := HR.out.cell 4
              have r5 := HR.out.cell 5
              have r6 := HR.out.cell 6
              simp at r0 r1 r2 r3 r4 r5 r6
              have rf : ∀ j, wr.frozen? ⟨R0, j, none⟩ = false := fun j => HR.out.fz j
              have nb : b ≠ R0 := by omega
              have nq : q ≠ R0 := by omega
              have nb' : R0 ≠ b := by omega
              have nq' : R0 ≠ q := by omega
              clear HST HRI HSP HNUM HSk HMk HOk HGD HNN hc1 HGG HVL HS5 HM
              go_wp2_with fail
              go_region_held3 (fun W => W.cell? ⟨b, 3, none⟩ = some (.int .i64 c1) ∧ W.cell? ⟨q, 0, none⟩ = some (.int .i64 p1)) (go_keep) (fail)
              all_goals go_wp2_with fail
              refine bodyPost_ret (v := .agg #[.int .i64 0, .int .i64 0, .int .i64 0, .int .i64 0, .slice none 0 0, .int .i64 (p1), .int .i64 (c1)]) ?_ rfl (HZ.out _ _ _ HS.out ?_)
              · simp [results, Tryd.results5, go_sem, r0, r1, r2, r3, r4, r5, r6]
              · refine Below.drew ?_
                repeat refine bl_set ?_ _ _
                exact HB.out
          · have q0' : decide (k < N) = false := by simpa using hkn
            have q1' : decide ((k : Int) < (N : Int)) = false := by simpa using hkn
            obtain rfl : N = k := by omega
            by_cases hc1 : c1 = 0
            · have qc : (c1 == 0) = true := by simpa using hc1
              have qc2 : (c1 != 0) = false := by simpa using hc1
              have HE : Hid (RdEnd s N p1 c1) := Or.inl ⟨HGD.out, by omega, by omega, HNN.out, HST.out, hc1⟩
              by_cases hp : p1 < (s.size : Int)
              · have qp : decide (p1 < (s.size : Int)) = true := by simpa using hp
                have HS : Hid (ResIs s 0 0 0 0 0 p1 3) := HRI.out _ _ _ _ _ _ _ ⟨N, p1, c1, HE.out, Or.inr (Or.inl ⟨hc1, hp, rfl, rfl, rfl, rfl, rfl, rfl, rfl⟩)⟩
                have r0 := HR.out.cell 0
                have r1 := HR.out.cell 1
                have r2 := HR.out.cell 2
                have r3 := HR.out.cell 3
                have r4 := HR.out.cell 4
                have r5 := HR.out.cell 5
                have r6 := HR.out.cell 6
                simp at r0 r1 r2 r3 r4 r5 r6
                have rf : ∀ j, wr.frozen? ⟨R0, j, none⟩ = false := fun j => HR.out.fz j
                clear HST HRI HSP HNUM HSk HMk HOk HGD HNN hc1 HGG HVL HS5 HM hp HE
                go_wp2_with fail
                refine bodyPost_ret (v := .agg #[.int .i64 0, .int .i64 0, .int .i64 0, .int .i64 0, .slice none 0 0, .int .i64 (p1), .int .i64 (3)]) ?_ rfl (HZ.out _ _ _ HS.out ?_)
                · simp [results, Tryd.results5, go_sem, r0, r1, r2, r3, r4, r5, r6]
                · repeat refine bl_set ?_ _ _
                  exact HB.out
              · have qp : decide (p1 < (s.size : Int)) = false := by simpa using hp
                obtain ⟨a, cap, rfl, hOw, hbk⟩ := own_inss HOk.out
                obtain ⟨g, cap', hsh, hg1⟩ := own_shape HOk.out (by omega)
                cases hsh
                have HO3 : Hid (OwnR wr (some ⟨g, 0, none⟩) N 3 (insF (rowL s))) := hOw
                have HK3 : Hid (q < g ∧ g < wr.heap.size) := by have := hbk g rfl; exact ⟨by omega, this.2⟩
                have HMR := HSP.out z0 z1 z2 z3 g N cap wr (by omega) HO3.out.inss
                have HMR : Hid (Calls Tryd.prog 13 _ _ _) := HMR
                have HN : Hid (¬ ModP z0 z1 z2 z3 N (rowL s) → ResIs s 0 0 0 0 0 0 1) := fun h => HRI.out _ _ _ _ _ _ _ ⟨N, p1, c1, HE.out, Or.inr (Or.inr (Or.inl ⟨hc1, (by first | exact hp | omega), h, rfl, rfl, rfl, rfl, rfl, rfl, rfl⟩))⟩
                have HY : Hid (ModP z0 z1 z2 z3 N (rowL s) → ResIs s z0 z1 z2 z3 N 0 0) := fun h => HRI.out _ _ _ _ _ _ _ ⟨N, p1, c1, HE.out, Or.inr (Or.inr (Or.inr ⟨hc1, (by first | exact hp | omega), h, rfl, rfl, rfl, rfl, rfl, rfl, rfl⟩))⟩
                have m0 : wr.cell? ⟨Mb, 0, none⟩ = some (.int .i64 z0) := HMk.out.cell 0
                have m1 : wr.cell? ⟨Mb, 1, none⟩ = some (.int .i64 z1) := HMk.out.cell 1
                have m2 : wr.cell? ⟨Mb, 2, none⟩ = some (.int .i64 z2) := HMk.out.cell 2
                have m3 : wr.cell? ⟨Mb, 3, none⟩ = some (.int .i64 z3) := HMk.out.cell 3
                have m4 : wr.cell? ⟨Mb, 4, none⟩ = some (.slice (some ⟨g, 0, none⟩) N cap) := HMk.out.cell 4
                have HRw : Hid (Bxs wr R0 #[.int .i64 0, .int .i64 0, .int .i64 0, .int .i64 0, .slice none 0 0, .int .i64 0, .int .i64 0] 26) := HR.out
                have HBw : Hid (Below R0 w wr) := HB.out
                clear HE HRI hc1 hp HR HB HST HSP HNUM HSk HOk hOw hbk HGD HNN HGG HVL HS5 HM hg1
                go_wp2_with fail
                refine HMR.out.mono ?_
                rintro e w4' ⟨ok, rfl, hok, hb4⟩
                have HOK : Hid (ok = true ↔ ModP z0 z1 z2 z3 N (rowL s)) := hok
                have HR : Hid (Bxs w4' R0 #[.int .i64 0, .int .i64 0, .int .i64 0, .int .i64 0, .slice none 0 0, .int .i64 0, .int .i64 0] 26) := HRw.out.below hb4
                have HB : Hid (Below R0 w w4') := HBw.out.trans (hb4.mono (by have := HRw.out.lt; omega))
                have HM4 : Hid (Bxs w4' Mb #[.int .i64 z0, .int .i64 z1, .int .i64 z2, .int .i64 z3, .slice (some ⟨g, 0, none⟩) N cap] 24) := HMk.out.below hb4
                have HO4 : Hid (OwnR w4' (some ⟨g, 0, none⟩) N 3 (insF (rowL s))) := HO3.out.below hb4
                have HK4 : Hid (q < g ∧ g < w4'.heap.size) := ⟨HK3.out.1, by have := HK3.out.2; have := hb4.size; omega⟩
                clear hok hb4 HRw HBw HMk HO3 HK3 x1 x2 x3 xq m0 m1 m2 m3 m4 HMR
                have m0 : w4'.cell? ⟨Mb, 0, none⟩ = some (.int .i64 z0) := HM4.out.cell 0
                have m1 : w4'.cell? ⟨Mb, 1, none⟩ = some (.int .i64 z1) := HM4.out.cell 1
                have m2 : w4'.cell? ⟨Mb, 2, none⟩ = some (.int .i64 z2) := HM4.out.cell 2
                have m3 : w4'.cell? ⟨Mb, 3, none⟩ = some (.int .i64 z3) := HM4.out.cell 3
                have m4 : w4'.cell? ⟨Mb, 4, none⟩ = some (.slice (some ⟨g, 0, none⟩) N cap) := HM4.out.cell 4
                have r0 := HR.out.cell 0
                have r1 := HR.out.cell 1
                have r2 := HR.out.cell 2
                have r3 := HR.out.cell 3
                have r4 := HR.out.cell 4
                have r5 := HR.out.cell 5
                have r6 := HR.out.cell 6
                simp at r0 r1 r2 r3 r4 r5 r6
                have rf : ∀ j, w4'.frozen? ⟨R0, j, none⟩ = false := fun j => HR.out.fz j
                cases ok
                · have HS : Hid (ResIs s 0 0 0 0 0 0 1) := HN.out (fun h => by have := HOK.out.2 h; cases this)
                  clear HN HY HOK HM4 HO4 HK4
                  go_wp2_with fail
                  refine bodyPost_ret (v := .agg #[.int .i64 0, .int .i64 0, .int .i64 0, .int .i64 0, .slice none 0 0, .int .i64 (0), .int .i64 (1)]) ?_ rfl (HZ.out _ _ _ HS.out ?_)
                  · simp [results, Tryd.results5, go_sem, r0, r1, r2, r3, r4, r5, r6]
                  · repeat refine bl_set ?_ _ _
                    exact HB.out
                · have HS : Hid (ResIs s z0 z1 z2 z3 N 0 0) := HY.out (HOK.out.1 rfl)
                  have HF : Hid (∀ W, OwnR W (some ⟨g, 0, none⟩) N 3 (insF (rowL s)) → w4'.heap.size ≤ W.heap.size → Below R0 w W → RdOut s w (.returned (.agg #[.int .i64 z0, .int .i64 z1, .int .i64 z2, .int .i64 z3, .slice (some ⟨g, 0, none⟩) N cap, .int .i64 0, .int .i64 0])) W) := fun W h1 h2 h3 => ⟨z0, z1, z2, z3, some ⟨g, 0, none⟩, N, cap, 0, 0, rfl, h1, fun k e => by simp at e; subst e; have := HK4.out; have := HRR.out; omega, HRR.out ▸ h3, HS.out⟩
                  have HNE : Hid (∀ k, (some (⟨g, 0, none⟩ : Addr)).map Addr.block = some k → k ≠ R0) := fun k e => by simp at e; subst e; have := HK4.out; omega
                  clear HN HY HOK HM4 HK4 HS
                  go_wp2_with fail
                  refine bodyPost_ret (v := .agg #[.int .i64 z0, .int .i64 z1, .int .i64 z2, .int .i64 z3, .slice (some ⟨g, 0, none⟩) N cap, .int .i64 0, .int .i64 0]) ?_ rfl (HF.out _ ?_ ?_ ?_)
                  · simp [results, Tryd.results5, go_sem, r0, r1, r2, r3, r4, r5, r6]
                  · repeat refine OwnR.setM ?_ HNE.out
                    exact HO4.out
                  · simp
                  · repeat refine bl_set ?_ _ _
                    exact HB.out
            · have qc : (c1 == 0) = false := by simpa using hc1
              have qc2 : (c1 != 0) = true := by simpa using hc1
              have HS : Hid (ResIs s 0 0 0 0 0 p1 c1) := HRI.out _ _ _ _ _ _ _ ⟨0, p1, c1, Or.inr (Or.inr ⟨5 + 3 * N, HST.out, hc1, Or.inr ⟨HGD.out, by have := HNN.out; omega, by have := HNN.out; omega, by have := HNN.out; omega⟩⟩), Or.inl ⟨hc1, rfl, rfl, rfl, rfl, rfl, rfl, rfl⟩⟩
              rw [if_neg hc1] at xq
              have r0 := HR.out.cell 0
              have r1 := HR.out.cell 1
              have r2 := HR.out.cell 2
              have r3 := HR.out.cell 3
              have r4 := HR.out.cell 4
              have r5 := HR.out.cell 5
              have r6 := HR.out.cell 6
              simp at r0 r1 r2 r3 r4 r5 r6
              have rf : ∀ j, wr.frozen? ⟨R0, j, none⟩ = false := fun j => HR.out.fz j
              have nb : b ≠ R0 := by omega
              have nq : q ≠ R0 := by omega
              have nb' : R0 ≠ b := by omega
              have nq' : R0 ≠ q := by omega
              clear HST HRI HSP HNUM HSk HMk HOk HGD HNN hc1 HGG HVL HS5 HM
              go_wp2_with fail
              go_region_held3 (fun W => W.cell? ⟨b, 3, none⟩ = some (.int .i64 c1) ∧ W.cell? ⟨q, 0, none⟩ = some (.int .i64 p1)) (go_keep) (fail)
              all_goals go_wp2_with fail
              refine bodyPost_ret (v := .agg #[.int .i64 0, .int .i64 0, .int .i64 0, .int .i64 0, .slice none 0 0, .int .i64 (p1), .int .i64 (c1)]) ?_ rfl (HZ.out _ _ _ HS.out ?_)
              · simp [results, Tryd.results5, go_sem, r0, r1, r2, r3, r4, r5, r6]
              · refine Below.drew ?_
                repeat refine bl_set ?_ _ _
                exact HB.out
      · have HS : Hid (ResIs s 0 0 0 0 0 g 1) := HRI.out _ _ _ _ _ _ _ ⟨0, plc s 4, 1, Or.inr (Or.inl ⟨hgood, by rw [← hn]; exact hr, rfl, rfl⟩), Or.inl ⟨by omega, rfl, rfl, rfl, rfl, rfl, HGG.out hc, rfl⟩⟩
        have r0 := HR.out.cell 0
        have r1 := HR.out.cell 1
        have r2 := HR.out.cell 2
        have r3 := HR.out.cell 3
        have r4 := HR.out.cell 4
        have r5 := HR.out.cell 5
        have r6 := HR.out.cell 6
        simp at r0 r1 r2 r3 r4 r5 r6
        have rf : ∀ j, w6.frozen? ⟨R0, j, none⟩ = false := fun j => HR.out.fz j
        by_cases h1 : n < 1
        · have qd : decide (n < 1) = true := by simpa using h1
          clear HST HVL HGG hgood hn hr HRI HSP HNUM HS5 HM xq hc
          go_wp2_with fail
          refine bodyPost_ret (v := .agg #[.int .i64 0, .int .i64 0, .int .i64 0, .int .i64 0, .slice none 0 0, .int .i64 (g), .int .i64 (1)]) ?_ rfl (HZ.out _ _ _ HS.out ?_)
          · simp [results, Tryd.results5, go_sem, r0, r1, r2, r3, r4, r5, r6]
          · repeat refine bl_set ?_ _ _
            exact HB.out
        · have qd : decide (n < 1) = false := by simpa using h1
          have qe : decide (2000 < n) = true := by simp; omega
          clear HST HVL HGG hgood hn hr HRI HSP HNUM HS5 HM xq hc
          go_wp2_with fail
          refine bodyPost_ret (v := .agg #[.int .i64 0, .int .i64 0, .int .i64 0, .int .i64 0, .slice none 0 0, .int .i64 (g), .int .i64 (1)]) ?_ rfl (HZ.out _ _ _ HS.out ?_)
          · simp [results, Tryd.results5, go_sem, r0, r1, r2, r3, r4, r5, r6]
          · repeat refine bl_set ?_ _ _
            exact HB.out
    · have hn : n = 0 := HVL.out.2 (fun h => hc (HST.out.good.2 h))
      have qc : (c == 0) = false := by simpa using hc
      have qc2 : (c != 0) = true := by simpa using hc
      have HS : Hid (ResIs s 0 0 0 0 0 p c) := HRI.out _ _ _ _ _ _ _ ⟨0, p, c, Or.inr (Or.inr ⟨5, HST.out, hc, Or.inl rfl⟩), Or.inl ⟨hc, rfl, rfl, rfl, rfl, rfl, rfl, rfl⟩⟩
      rw [if_neg hc] at xq
      subst hn
      have r0 := HR.out.cell 0
      have r1 := HR.out.cell 1
      have r2 := HR.out.cell 2
      have r3 := HR.out.cell 3
      have r4 := HR.out.cell 4
      have r5 := HR.out.cell 5
      have r6 := HR.out.cell 6
      simp at r0 r1 r2 r3 r4 r5 r6
      have rf : ∀ j, w6.frozen? ⟨R0, j, none⟩ = false := fun j => HR.out.fz j
      clear HST HVL HGG HRI HSP HNUM HS5 HM hc
      go_wp2_with fail
      refine wp_loop_rounds 1 ?_
      rw [rounds_succ]
      go_wp2_with fail
      have nb : b ≠ R0 := by omega
      have nq : q ≠ R0 := by omega
      have nb' : R0 ≠ b := by omega
      have nq' : R0 ≠ q := by omega
      go_region_held3 (fun W => W.cell? ⟨b, 3, none⟩ = some (.int .i64 c) ∧ W.cell? ⟨q, 0, none⟩ = some (.int .i64 p)) (go_keep) (fail)
      all_goals go_wp2_with fail
      refine bodyPost_ret (v := .agg #[.int .i64 0, .int .i64 0, .int .i64 0, .int .i64 0, .slice none 0 0, .int .i64 (p), .int .i64 (c)]) ?_ rfl (HZ.out _ _ _ HS.out ?_)
      · simp [results, Tryd.results5, go_sem, r0, r1, r2, r3, r4, r5, r6]
      · refine Below.drew ?_
        repeat refine bl_set ?_ _ _
        exact HB.out
end Go.Proofs.YtdbahildcecgbaaDoor
