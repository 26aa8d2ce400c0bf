/- append(append([]string{}, xs...), ys...): its runs. -/
import Derived.Test.YtnefcldjigndgaaDoorPrG
import Derived.Deep.AppendLies
namespace Go.Proofs.YtnefcldjigndgaaDoor
open Go.RowKit Go.Maps
open Go.Proofs.YtnefcldjigndgaaDoor.Draw

/-- An append whose run is known, as a step of a region that draws. -/
theorem step_app {ops : Array Oper} {o : Oper} {a : Act} {w : World} {K : Act → World → Prop} {Q : Exit → Act → World → Prop} {E : Prop} (hg : o.guard = none) (d x : Operand) (t : TypeId) (ho : o.op = .call { callee := .builtin .append, args := #[d, x], argTypes := #[t, t] })
    (v u : Value) (hd : a.eval d = v) (hx : a.eval x = u) {v' : Value} {w' : World} (hr : (Builtin.append_ #[t, t] o.type #[v, u]).run Tryd.prog w = .ok v' w') (hK : K (a.put o.dst v') w') :
    if Region.wanted o (yielded ops a.tmps) = true then Oper.wp Tryd.prog o a w K Q else E := by
  have hw : Region.wanted o (yielded ops a.tmps) = true := by simp [Region.wanted, hg]
  rw [if_pos hw]
  unfold Oper.wp
  simp [execOp, ho, resolve, invoke, builtin, hd, hx, hr, Result.andThen]
  exact hK
/-- 'append([]string{}, xs...)'. -/
theorem copy_run (W : World) (g : Nat) (hg : g = W.heap.size) (a : Option Addr) (n cap : Nat) (I : Nat → Tx) (hn : n ≤ 1048576) (h : TextsAt W a n I) :
    ∃ a' c' w', (Builtin.append_ #[30, 30] 30 #[.slice (some ⟨g, 0, none⟩) 0 0, .slice a n cap]).run Tryd.prog (W.alloc (.cells #[] 9)) = .ok (.slice a' n c') w' ∧ w'.ownsRow W.heap.size 9 1 (.slice a' n c') n (textsC I n) ∧ Below W.heap.size W w' := by
  obtain ⟨i0, hi, hz0, hz1, hz2⟩ := info_parts infoText
  have hO : (W.alloc (.cells #[] 9)).ownsRow W.heap.size 9 1 (.slice (some ⟨g, 0, none⟩) 0 0) 0 [] := own_new0 hg (Nat.le_refl _)
  have hB : Below W.heap.size W (W.alloc (.cells #[] 9)) := (Below.refl _ _).alloc (Nat.le_refl _) _
  rcases Nat.eq_zero_or_pos n with h0 | hpos
  · subst h0
    refine ⟨_, _, _, ?_, hO, hB⟩
    cases a <;> simp [Builtin.append_, run_underlying Tryd.underlying30, sizeOf, typeInfo, hi, Builtin.lenOf, Builtin.firstCells, storeCells, loadCells, loadCellsFrom]
  · have h' := h.below hB
    rcases h' with e | ⟨b, o, rfl, hb, hc⟩
    · omega
    have hT : TextsAt (W.alloc (.cells #[] 9)) (some ⟨b, o, none⟩) n I := Or.inr ⟨b, o, rfl, hb, hc⟩
    obtain ⟨g2, c2, w', hr, hown, hgr, _, _⟩ := run_append_lies (P := Tryd.prog) (W.alloc (.cells #[] 9)) 30 30 W.heap.size 9 i0 (.string ⟨#[]⟩) 1 16 Tryd.underlying30 hi hz0 hz1 hz2 rfl (by decide) _ 0 [] hO ⟨b, o, none⟩ n cap (textsC I n) (textsC_len I n) (news_texts hT) (ones_texts I n) hpos (by unfold maxLen; omega) (by omega) (by simp) _ rfl
    rw [Nat.zero_add] at hr hown
    rw [List.nil_append] at hown
    refine ⟨_, _, w', hr, hown, hB.grown hgr (by simp) (fun k hk => by simp [Value.ownBlock] at hk; omega)⟩
/-- The second append. -/
theorem two_run (W : World) (g : Nat) (hg : g = W.heap.size) (a b : Option Addr) (n m cap cap' : Nat) (I J : Nat → Tx) (hn : n ≤ 1024) (hm : 1 ≤ m) (hm' : m ≤ 1024) (h : TextsAt W a n I) (h' : TextsAt W b m J) :
    ∃ a' c' w' a2 c2 w2, (Builtin.append_ #[30, 30] 30 #[.slice (some ⟨g, 0, none⟩) 0 0, .slice a n cap]).run Tryd.prog (W.alloc (.cells #[] 9)) = .ok (.slice a' n c') w' ∧ Below W.heap.size W w' ∧
      (Builtin.append_ #[30, 30] 30 #[.slice a' n c', .slice b m cap']).run Tryd.prog w' = .ok (.slice a2 (n + m) c2) w2 ∧ w2.ownsRow W.heap.size 9 1 (.slice a2 (n + m) c2) (n + m) (textsC I n ++ textsC J m) ∧ Below W.heap.size W w2 := by
  obtain ⟨i0, hi, hz0, hz1, hz2⟩ := info_parts infoText
  obtain ⟨a', c', w', hr, hO, hB⟩ := copy_run W g hg a n cap I (by omega) h
  have hT := h'.below hB
  rcases hT with e | ⟨q, o, rfl, hb, hc⟩
  · omega
  have hT : TextsAt w' (some ⟨q, o, none⟩) m J := Or.inr ⟨q, o, rfl, hb, hc⟩
  obtain ⟨g2, c2, w2, hr2, hown, hgr, _, _⟩ := run_append_lies (P := Tryd.prog) w' 30 30 W.heap.size 9 i0 (.string ⟨#[]⟩) 1 16 Tryd.underlying30 hi hz0 hz1 hz2 rfl (by decide) _ n _ hO ⟨q, o, none⟩ m cap' (textsC J m) (textsC_len _ _) (news_texts hT) (ones_texts _ _) (by omega) (by unfold maxLen; omega) (by omega) hB.size _ rfl
  exact ⟨a', c', w', _, c2, w2, hr, hB, hr2, hown, hB.grown hgr hB.size (fun k hk => (hO.lt k hk).1)⟩
end Go.Proofs.YtnefcldjigndgaaDoor
