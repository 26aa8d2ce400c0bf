/- A disk copied (impl.apart, spec.l06Copy): what each call does. -/
import Derived.Test.YthjanamnkhggfaaDoorDkT
import Derived.Deep.RegionHeldLaw
import Derived.Deep.AppendLies
namespace Go.Proofs.YthjanamnkhggfaaDoor
open Go.RowKit
open Go.Proofs.YthjanamnkhggfaaDoor.Draw

theorem own_base {w : World} {B B' : Nat} {e size : Nat} {v : Value} {n : Nat} {xs : List Value} (h : w.ownsRow B e size v n xs) (hB : B' ≤ B) : w.ownsRow B' e size v n xs := by
  rcases h with ⟨h1, h2 | ⟨g, cap, cur, rfl, hg0, r⟩⟩
  · exact ⟨h1, Or.inl h2⟩
  · exact ⟨h1, Or.inr ⟨g, cap, cur, rfl, Nat.le_trans hB hg0, r⟩⟩
theorem info9 : (Tryd.prog.info? 9).map (fun i => (i.zero, i.size, i.bytes)) = some (some (.string ⟨#[]⟩), 1, 16) := by kernel_rfl
theorem news1 {w : World} {b : Nat} (x : Value) (hb : b = w.heap.size) : ∀ j u, [x][j]? = some u → (w.alloc (.cells #[x] 9)).cell? ((⟨b, 0, none⟩ : Addr).add j) = some u := by
  intro j u hj
  subst hb
  rw [add_off, Nat.zero_add, World.cell?_alloc_new, ← hj]
  simp
theorem ones1 (x : ByteArray) : ∀ u ∈ [Value.string x], u.oneCell' = true := by
  intro u hu; simp at hu; subst hu; rfl
theorem own_cell {w : World} {B e size n r j : Nat} {v u : Value} {xs : List Value} (h : w.ownsRow B e size v n xs) (hr : r < B) : (w.setCell ⟨r, j, none⟩ u).ownsRow B e size v n xs :=
  h.kept (setGrown (World.grownBy.refl _ _)) (Or.inr (fun e => by have := (h.lt r e).1; omega))
theorem own_slice {w : World} {B e size n : Nat} {v : Value} {xs : List Value} (h : w.ownsRow B e size v n xs) : ∃ a c, v = .slice a n c := by
  rcases h with ⟨_, ⟨rfl, rfl⟩ | ⟨g, cap, _, rfl, _⟩⟩
  · exact ⟨_, _, rfl⟩
  · exact ⟨_, _, rfl⟩
theorem Bx.set {W : World} {b : Nat} {s : ByteArray} {v : Value} (h : Bx W b s v) (u : Value) : Bx (W.setCell ⟨b, 1, none⟩ u) b s u := by
  have a1 := h.c1
  refine ⟨?_, by simp [go_sem, a1], by simpa using h.lt⟩
  rw [World.cell?_setCell_other _ _ _ _ (by simp)]; exact h.c0
/-- Behind the append: the box of the own disk, the row, the world. -/
theorem app_tail {wr w2 w3 : World} {Q k g2 cap2 : Nat} {s : ByteArray} {v : Value} {xs ys : List Value} {o : Obj} (hX : Bx wr Q s v) (hF : ∀ j, wr.frozen? ⟨Q, j, none⟩ = false) (hO : wr.ownsRow (Q + 1) 9 1 v k xs)
    (hb2 : Below wr.drew.heap.size wr.drew w2) (hown : w3.ownsRow (Q + 1) 9 1 (.slice (some ⟨g2, 0, none⟩) (k + 1) cap2) (k + 1) ys) (hg : (w2.alloc o).grownBy w3 v.ownBlock) :
    w3.cell? ⟨Q, 0, none⟩ = some (.string s) ∧ w3.cell? ⟨Q, 1, none⟩ = some v ∧ (∀ j, w3.frozen? ⟨Q, j, none⟩ = false) ∧ Hid (w3.ownsRow (Q + 1) 9 1 (.slice (some ⟨g2, 0, none⟩) (k + 1) cap2) (k + 1) ys) ∧ Hid (Below Q wr w3 ∧ Q < w3.heap.size) := by
  have hb : Below wr.heap.size wr w2 := (Below.refl _ wr).drew.trans hb2
  have hsz := hb.size
  have hlt := hX.lt
  have hne : some Q ≠ v.ownBlock := fun e => by have := (hO.lt Q e.symm).1; omega
  have X2 := (hX.below hb).below ((Below.refl _ w2).alloc (Nat.le_refl _) o)
  have hblk := hg.block Q X2.lt hne
  refine ⟨(X2.grown hg hne).c0, (X2.grown hg hne).c1, fun j => ?_, hown, ?_, ?_⟩
  · rw [World.frozen?_of_block (a := ⟨Q, j, none⟩) hblk, World.frozen?_alloc_past _ _ _ (by show Q < _; omega)]
    exact (hb.frozen (p := ⟨Q, j, none⟩) hlt).trans (hF j)
  · exact ((hb.mono (by omega)).alloc (by omega) o).grown hg (by simp; omega) (fun k hk => by have := (hO.lt k hk).1; omega)
  · exact (X2.grown hg hne).lt
/-- An append whose run is known, as a step of a region that draws. -/
theorem step_append_eq {ops : Array Oper} {o : Oper} {a : Act} {w : World} {K : Act → World → Prop} {Q : Exit → Act → World → Prop} {E : Prop} (hg : o.guard = none) (d x : Operand) (t : TypeId) (ho : o.op = .call { callee := .builtin .append, args := #[d, x], argTypes := #[t, t] })
    (v u : Value) (hd : a.eval d = v) (hx : a.eval x = u) {v' : Value} {w' : World} (hr : (Builtin.append_ #[t, t] o.type #[v, u]).run Tryd.prog w = .ok v' w') (hK : K (a.put o.dst v') w') :
    if Region.wanted o (yielded ops a.tmps) = true then Oper.wp Tryd.prog o a w K Q else E := by
  have hw : Region.wanted o (yielded ops a.tmps) = true := by simp [Region.wanted, hg]
  rw [if_pos hw]
  unfold Oper.wp
  simp [execOp, ho, resolve, invoke, builtin, hd, hx, hr, Result.andThen]
  exact hK
/-- 'append([]string{}, xs...)'. -/
theorem copy_run (W : World) (g : Nat) (hg : g = W.heap.size) (a : Option Addr) (n cap : Nat) (I : Nat → Tx) (hn : n ≤ 1048576) (h : TextsAt W a n I) :
    ∃ a' c' w', (Builtin.append_ #[24, 24] 24 #[.slice (some ⟨g, 0, none⟩) 0 0, .slice a n cap]).run Tryd.prog (W.alloc (.cells #[] 9)) = .ok (.slice a' n c') w' ∧ w'.ownsRow W.heap.size 9 1 (.slice a' n c') n (textsC I n) ∧ Below W.heap.size W w' := by
  obtain ⟨i0, hi, hz0, hz1, hz2⟩ := info_parts info9
  have hO : (W.alloc (.cells #[] 9)).ownsRow W.heap.size 9 1 (.slice (some ⟨g, 0, none⟩) 0 0) 0 [] := own_new0 hg (Nat.le_refl _)
  have hB : Below W.heap.size W (W.alloc (.cells #[] 9)) := (Below.refl _ _).alloc (Nat.le_refl _) _
  rcases Nat.eq_zero_or_pos n with h0 | hpos
  · subst h0
    refine ⟨_, _, _, ?_, hO, hB⟩
    cases a <;> simp [Builtin.append_, run_underlying Tryd.underlying24, sizeOf, typeInfo, hi, Builtin.lenOf, Builtin.firstCells, storeCells, loadCells, loadCellsFrom]
  · have h' := h.below hB
    rcases h' with e | ⟨b, o, rfl, hb, hc⟩
    · omega
    have hT : TextsAt (W.alloc (.cells #[] 9)) (some ⟨b, o, none⟩) n I := Or.inr ⟨b, o, rfl, hb, hc⟩
    obtain ⟨g2, c2, w', hr, hown, hgr, _, _⟩ := run_append_lies (P := Tryd.prog) (W.alloc (.cells #[] 9)) 24 24 W.heap.size 9 i0 (.string ⟨#[]⟩) 1 16 Tryd.underlying24 hi hz0 hz1 hz2 rfl (by decide) _ 0 [] hO ⟨b, o, none⟩ n cap (textsC I n) (textsC_len I n) (news_texts hT) (ones_texts I n) hpos (by unfold maxLen; omega) (by omega) (by simp) _ rfl
    rw [Nat.zero_add] at hr hown
    rw [List.nil_append] at hown
    refine ⟨_, _, w', hr, hown, hB.grown hgr (by simp) (fun k hk => by simp [Value.ownBlock] at hk; omega)⟩
end Go.Proofs.YthjanamnkhggfaaDoor
