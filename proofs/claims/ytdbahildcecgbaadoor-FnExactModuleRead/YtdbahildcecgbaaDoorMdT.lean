/- Numbers read one behind the other: what the model's reader does. -/
import Derived.Test.YtdbahildcecgbaaDoorMdS
import Derived.Test.YtdbahildcecgbaaDoorGet
namespace Go.Proofs.YtdbahildcecgbaaDoor
open Go.RowKit
open Go.Proofs.YtdbahildcecgbaaDoor.Draw

/-- The model's reader after its k numbers. -/
def RsAt (b : Nat) (s : ByteArray) (k : Nat) (g : Int) (w w' : World) : Prop := ∃ p c, RdSt s k p c ∧ Bxs w' b #[.string s, .int .i64 p, .int .i64 g, .int .i64 c] 34 ∧ Tn b w w'
set_option maxRecDepth 100000 in
set_option maxHeartbeats 16000000 in
theorem spec_num (s : ByteArray) (k : Nat) (p g c : Int) (hs : s.size ≤ 20000) (h : RdSt s k p c) (b : Nat) (w : World) (hx : Bxs w b #[.string s, .int .i64 p, .int .i64 g, .int .i64 c] 34) :
    Calls Tryd.prog 21 #[.pointer (some ⟨b, 0, none⟩)] w fun e w' => e = .returned (.int .i64 (vlu s k)) ∧ RsAt b s (k + 1) p w w' := by
  obtain ⟨⟨N, P, C⟩, hg⟩ : ∃ R, getB s p = R := ⟨_, rfl⟩
  have hp := h.place
  obtain ⟨h1, h2⟩ := h.next hg
  have hcc : c ≠ 0 → C = c := fun hc => by
    rcases h with ⟨_, e, _⟩ | ⟨f, _, _, _, e1, e2⟩
    · exact absurd e hc
    · rw [e2]; unfold cod; rw [← e1, hg]
  have HG : Hid (∀ W, Calls Tryd.prog 33 #[.string s, .int .i64 p] W fun e w' => e = .returned (.agg #[.int .i64 N, .int .i64 P, .int .i64 C]) ∧ Below W.heap.size W w') := fun W => by have := spec_get s p W (by unfold maxLen; omega) (by omega) (by omega); rw [hg] at this; exact this
  have HX0 : Hid (Bxs w b #[.string s, .int .i64 p, .int .i64 g, .int .i64 c] 34) := hx
  have c0 : w.cell? ⟨b, 0, none⟩ = some (.string s) := hx.cell 0
  have c1 : w.cell? ⟨b, 1, none⟩ = some (.int .i64 p) := hx.cell 1
  have c2 : w.cell? ⟨b, 2, none⟩ = some (.int .i64 g) := hx.cell 2
  have c3 : w.cell? ⟨b, 3, none⟩ = some (.int .i64 c) := hx.cell 3
  have f2 : w.frozen? ⟨b, 2, none⟩ = false := hx.fz 2
  have blt := hx.lt
  have H1 : Hid (RdSt s (k + 1) (if C = 0 then P else p) (if C = 0 then c else C) ∧ (if C = 0 then N else 0) = vlu s k) := ⟨h1, h2⟩
  obtain ⟨V, hV⟩ : ∃ V, V = vlu s k := ⟨_, rfl⟩
  rw [← hV] at H1 ⊢
  clear hV h1 h2 hx hs hg h hp
  have HX : Hid (Bxs (w.setCell ⟨b, 2, none⟩ (.int .i64 p)) b #[.string s, .int .i64 p, .int .i64 p, .int .i64 c] 34) := HX0.out.set 2 _
  have HT : Hid (Tn b w (w.setCell ⟨b, 2, none⟩ (.int .i64 p))) := (Tn.refl b w).set 2 _
  clear HX0
  go_enter Tryd.func21, Tryd.ntmps21
  by_cases hc : c = 0
  · have q0 : (c != 0) = false := by simpa using hc
    go_upto_region 4 with fail
    obtain ⟨w1, hw1⟩ : ∃ W, W = w.setCell ⟨b, 2, none⟩ (.int .i64 p) := ⟨_, rfl⟩
    rw [← hw1] at HX HT ⊢
    clear hw1 c0 c1 c2 c3 f2 blt
    have c0 : w1.cell? ⟨b, 0, none⟩ = some (.string s) := HX.out.cell 0
    have c1 : w1.cell? ⟨b, 1, none⟩ = some (.int .i64 p) := HX.out.cell 1
    have blt := HX.out.lt
    have ne : w1.heap.size ≠ b := by omega
    go_cut [3] (fun r wx => ∃ X, r = .pointer (some ⟨X, 0, none⟩) ∧ Hid (Bxs wx X #[.int .i64 N, .int .i64 P, .int .i64 C] 59 ∧ X ≠ b ∧ Bxs wx b #[.string s, .int .i64 p, .int .i64 p, .int .i64 c] 34 ∧ Tn b w1 wx))
    case first =>
      go_region_held3 (fun W => W.cell? ⟨b, 0, none⟩ = some (.string s) ∧ W.cell? ⟨b, 1, none⟩ = some (.int .i64 p)) (go_keep) (first | (go_at_call 33; refine (HG.out _).mono ?_; rintro e w2 ⟨rfl, hb2⟩; have hx2 : Below w1.heap.size w1 w2 := (by first | exact hb2 | exact (Below.refl _ w1).drew.trans hb2 | exact ((Below.refl _ w1).alloc (Nat.le_refl _) _).trans (hb2.mono (by simp)) | exact (((Below.refl _ w1).alloc (Nat.le_refl _) _).drew).trans (hb2.mono (by first | (simp; done) | (show w1.heap.size ≤ (w1.alloc _).heap.size; simp)))); have X2 := HX.out.below hx2; have k0 : w2.cell? ⟨b, 0, none⟩ = some (.string s) := X2.cell 0; have k1 : w2.cell? ⟨b, 1, none⟩ = some (.int .i64 p) := X2.cell 1; (first | (have z2 : Bxs w2 w1.heap.size #[.int .i64 0, .int .i64 0, .int .i64 0] 59 := (Bxs.new w1 _ _).below hb2) | (have z2 : Bxs w2 w1.heap.size #[.int .i64 0, .int .i64 0, .int .i64 0] 59 := (Bxs.new w1 _ _).drew.below hb2) | skip); (try (have zc0 : w2.cell? ⟨w1.heap.size, 0, none⟩ = some (.int .i64 0) := z2.cell 0; have zc1 : w2.cell? ⟨w1.heap.size, 1, none⟩ = some (.int .i64 0) := z2.cell 1; have zc2 : w2.cell? ⟨w1.heap.size, 2, none⟩ = some (.int .i64 0) := z2.cell 2; have zf : ∀ j, w2.frozen? ⟨w1.heap.size, j, none⟩ = false := fun j => z2.fz j)); (have nb : w2.heap.size ≠ b := (by have := hx2.size; omega))))
      all_goals go_wp2_with fail
      all_goals go_meet
      all_goals first
        | exact ⟨_, rfl, Bxs.new _ _ _, nb, X2.below ((Below.refl _ _).alloc (Nat.le_refl _) _), (Tn.of hx2).alloc _⟩
        | exact ⟨_, rfl, Bxs.new _ _ _, nb, (X2.below ((Below.refl _ _).alloc (Nat.le_refl _) _)).drew, ((Tn.of hx2).alloc _).drew⟩
        | exact ⟨_, rfl, z2.put3, ne, ((X2.other (Ne.symm ne) 0 _).other (Ne.symm ne) 1 _).other (Ne.symm ne) 2 _, (((Tn.of hx2).setNew (Nat.le_refl _) 0 _).setNew (Nat.le_refl _) 1 _).setNew (Nat.le_refl _) 2 _⟩
    case rest =>
      obtain ⟨X, rfl, HW⟩ := hcut
      have hne := HW.out.2.1
      have n0 : wc.cell? ⟨X, 0, none⟩ = some (.int .i64 N) := HW.out.1.cell 0
      have n1 : wc.cell? ⟨X, 1, none⟩ = some (.int .i64 P) := HW.out.1.cell 1
      have n2 : wc.cell? ⟨X, 2, none⟩ = some (.int .i64 C) := HW.out.1.cell 2
      have b1 : wc.cell? ⟨b, 1, none⟩ = some (.int .i64 p) := HW.out.2.2.1.cell 1
      have b2 : wc.cell? ⟨b, 3, none⟩ = some (.int .i64 c) := HW.out.2.2.1.cell 3
      have f1 : wc.frozen? ⟨b, 1, none⟩ = false := HW.out.2.2.1.fz 1
      have f3 : wc.frozen? ⟨b, 3, none⟩ = false := HW.out.2.2.1.fz 3
      by_cases hC : C = 0
      · have H2 := H1.out
        rw [if_pos hC, if_pos hC, if_pos hC] at H2
        have HR : Hid ((Ending.returned (.int .i64 N) = .returned (.int .i64 V)) ∧ RsAt b s (k + 1) p w (wc.setCell ⟨b, 1, none⟩ (.int .i64 P))) := ⟨by rw [H2.2], P, c, H2.1, HW.out.2.2.1.set 1 _, (HT.out.trans HW.out.2.2.2).set 1 _⟩
        subst hC
        clear HX HG HW c0 c1 H1 H2 HT hcc
        go_wp2_with fail
        go_ret
        exact HR.out
      · have H2 := H1.out
        rw [if_neg hC, if_neg hC, if_neg hC] at H2
        have hq : (C != 0) = true := by simpa using hC
        have HR : Hid ((Ending.returned (.int .i64 0) = .returned (.int .i64 V)) ∧ RsAt b s (k + 1) p w (wc.setCell ⟨b, 3, none⟩ (.int .i64 C))) := ⟨by rw [H2.2], p, C, H2.1, HW.out.2.2.1.set 3 _, (HT.out.trans HW.out.2.2.2).set 3 _⟩
        clear HX HG HW c0 c1 H1 H2 HT hcc
        go_wp2_with fail
        go_ret
        exact HR.out
  · have q0 : (c != 0) = true := by simpa using hc
    have hC : C ≠ 0 := by rw [hcc hc]; exact hc
    have H2 := H1.out
    rw [if_neg hC, if_neg hC, if_neg hC, hcc hc] at H2
    have HR : Hid ((Ending.returned (.int .i64 0) = .returned (.int .i64 V)) ∧ RsAt b s (k + 1) p w (w.setCell ⟨b, 2, none⟩ (.int .i64 p))) := ⟨by rw [H2.2], p, c, H2.1, HX.out, HT.out⟩
    clear HX HG H1 H2 HT hcc
    go_wp2_with fail
    go_ret
    exact HR.out
/-- Two blocks' cells may have turned, and blocks may have come. -/
structure Tn2 (b q : Nat) (w w' : World) : Prop where
  low : Below 0 w w'
  block : ∀ j, j < w.heap.size → j ≠ b → j ≠ q → w'.heap[j]? = w.heap[j]?
theorem Tn2.refl (b q : Nat) (w : World) : Tn2 b q w w := ⟨Below.refl _ _, fun _ _ _ _ => rfl⟩
theorem Tn2.one {b : Nat} (q : Nat) {w w' : World} (h : Tn b w w') : Tn2 b q w w' := ⟨h.low, fun j hj h1 _ => h.block j hj h1⟩
theorem Tn2.two (b : Nat) {q : Nat} {w w' : World} (h : Tn q w w') : Tn2 b q w w' := ⟨h.low, fun j hj _ h2 => h.block j hj h2⟩
theorem Tn2.trans {b q : Nat} {w w' w'' : World} (h : Tn2 b q w w') (h' : Tn2 b q w' w'') : Tn2 b q w w'' := ⟨h.low.trans h'.low, fun j hj h1 h2 => (h'.block j (Nat.lt_of_lt_of_le hj h.low.size) h1 h2).trans (h.block j hj h1 h2)⟩
theorem Tn2.next {b q : Nat} {w w' w'' : World} (h : Tn2 b q w w') (hb : Below w'.heap.size w' w'') : Tn2 b q w w'' := h.trans (Tn2.one q (Tn.of hb))
theorem Tn2.to {b q B : Nat} {w w' : World} (h : Tn2 b q w w') (h1 : B ≤ b) (h2 : B ≤ q) (h3 : B ≤ w.heap.size) : Below B w w' := ⟨h.low.os, h.low.tape, h.low.output, h.low.size, fun k hk => h.block k (by omega) (by omega) (by omega)⟩
theorem Tn2.bx {b q j : Nat} {w w' : World} {cs : Array Value} {t : TypeId} (h : Tn2 b q w w') (hx : Bxs w j cs t) (h1 : j ≠ b) (h2 : j ≠ q) : Bxs w' j cs t := (h.block j hx.lt h1 h2).trans hx
/-- The model's reader after its k numbers, with the place of the one that is refused. -/
def RbAt (b q : Nat) (s : ByteArray) (k : Nat) (w w' : World) : Prop := ∃ p g c, RdSt s k p c ∧ (c = 0 → g = plc s (k - 1)) ∧ Bxs w' b #[.string s, .int .i64 p, .int .i64 g, .int .i64 c] 34 ∧ Bxs w' q #[.int .i64 (if c = 0 then -1 else p)] 2 ∧ Tn2 b q w w'
set_option maxRecDepth 100000 in
set_option maxHeartbeats 16000000 in
theorem spec_l10num (s : ByteArray) (k : Nat) (p g c : Int) (hs : s.size ≤ 20000) (h : RdSt s k p c) (b q : Nat) (hbq : b ≠ q) (w : World) (hx : Bxs w b #[.string s, .int .i64 p, .int .i64 g, .int .i64 c] 34) (hy : Bxs w q #[.int .i64 (if c = 0 then -1 else p)] 2) :
    Calls Tryd.prog 12 #[.pointer (some ⟨b, 0, none⟩), .pointer (some ⟨q, 0, none⟩)] w fun e w' => e = .returned (.int .i64 (vlu s k)) ∧ RbAt b q s (k + 1) w w' := by
  have HN := spec_num s k p g c hs h b w hx
  have HN : Hid (Calls Tryd.prog 21 _ _ _) := HN
  have hp := h.place
  have HK : Hid (RdSt s k p c) := h
  have HY : Hid (Bxs w q #[.int .i64 (if c = 0 then -1 else p)] 2) := hy
  clear h hx hy hs
  obtain ⟨V, hV⟩ : ∃ V, V = vlu s k := ⟨_, rfl⟩
  rw [← hV] at HN ⊢
  clear hV
  go_enter Tryd.func12, Tryd.ntmps12
  go_wp2_with fail
  refine HN.out.mono ?_
  rintro e w1 ⟨rfl, p', c', h5, hx1, ht1⟩
  have H5 : Hid (RdSt s (k + 1) p' c') := h5
  have HX : Hid (Bxs w1 b #[.string s, .int .i64 p', .int .i64 p, .int .i64 c'] 34) := hx1
  have HT : Hid (Tn b w w1) := ht1
  have HY1 : Hid (Bxs w1 q #[.int .i64 (if c = 0 then -1 else p)] 2) := HT.out.bx HY.out (Ne.symm hbq)
  have d3 : w1.cell? ⟨b, 3, none⟩ = some (.int .i64 c') := hx1.cell 3
  have d2 : w1.cell? ⟨b, 2, none⟩ = some (.int .i64 p) := hx1.cell 2
  have e0 : w1.cell? ⟨q, 0, none⟩ = some (.int .i64 (if c = 0 then -1 else p)) := HY1.out.cell 0
  have g0 : w1.frozen? ⟨q, 0, none⟩ = false := HY1.out.fz 0
  -- what was so before
  have hold : c ≠ 0 → c' ≠ 0 ∧ p' = p := fun hc => by
    rcases HK.out with ⟨_, e, _⟩ | ⟨f, a1, a2, a3, a4, a5⟩
    · exact absurd e hc
    · have := h5.one (Or.inr ⟨f, by omega, a2, a3, rfl, rfl⟩)
      exact ⟨by rw [this.2]; exact a3, by rw [this.1, a4]⟩
  have hnew : c = 0 → p = plc s k := fun hc => by
    rcases HK.out with ⟨e, _⟩ | ⟨f, _, _, a3, _, a5⟩
    · exact e
    · exact absurd (a5 ▸ hc) a3
  have hfal : c = 0 → c' ≠ 0 → p' = p := fun hc hc' => by
    rcases h5 with ⟨_, e, _⟩ | ⟨f, a1, a2, a3, a4, a5⟩
    · exact absurd e hc'
    · have hgd := HK.out.good.1 hc
      have : f = k := by
        rcases (by omega : f < k ∨ f = k) with h1 | h1
        · exact absurd (hgd f h1) a3
        · exact h1
      rw [a4, this, hnew hc]
  have hcc : c' = 0 → c = 0 := fun h0 => Classical.byContradiction fun hc => (hold hc).1 h0
  clear h5 hx1 ht1 HN HY
  by_cases hc' : c' = 0
  · have hc : c = 0 := hcc hc'
    have HR : Hid (RbAt b q s (k + 1) w w1) := ⟨p', p, c', H5.out, fun _ => hnew hc, HX.out, by rw [if_pos hc']; have := HY1.out; rw [if_pos hc] at this; exact this, Tn2.one q HT.out⟩
    have q0 : (c' != 0) = false := by simpa using hc'
    clear HK H5 HX HT HY1 hold hnew hfal hcc e0 d2
    go_wp2_with fail
    go_ret
    exact ⟨rfl, HR.out⟩
  · have q0 : (c' != 0) = true := by simpa using hc'
    by_cases hc : c = 0
    · rw [if_pos hc] at e0
      have HR : Hid (RbAt b q s (k + 1) w (w1.setCell ⟨q, 0, none⟩ (.int .i64 p))) := ⟨p', p, c', H5.out, fun e => absurd e hc', HX.out.other hbq 0 _, by rw [if_neg hc', hfal hc hc']; exact HY1.out.set 0 _, (Tn2.one q HT.out).trans (Tn2.two b ((Tn.refl q _).set 0 _))⟩
      clear HK H5 HX HT HY1 hold hnew hfal hcc
      go_wp2_with fail
      go_ret
      exact ⟨rfl, HR.out⟩
    · rw [if_neg hc] at e0
      have q1 : decide (p < 0) = false := by simp; omega
      have HR : Hid (RbAt b q s (k + 1) w w1) := ⟨p', p, c', H5.out, fun e => absurd e hc', HX.out, by rw [if_neg hc', (hold hc).2]; have := HY1.out; rw [if_neg hc] at this; exact this, Tn2.one q HT.out⟩
      clear HK H5 HX HT HY1 hold hnew hfal hcc
      go_wp2_with fail
      go_ret
      exact ⟨rfl, HR.out⟩
end Go.Proofs.YtdbahildcecgbaaDoor
