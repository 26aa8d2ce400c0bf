/- Records read one behind the other (impl.RecsOf): what the call does. -/
import Derived.Test.YthjanamnkhggfaaDoorRcT
import Derived.Test.YthjanamnkhggfaaDoorRcU
import Derived.Maps.AppendAt
namespace Go.Proofs.YthjanamnkhggfaaDoor
open Go.RowKit Go.Shelf
open Go.Proofs.YthjanamnkhggfaaDoor.Draw
attribute [local go_sem] Oper.semAt_some

set_option maxRecDepth 100000 in
set_option maxHeartbeats 4000000 in
theorem impl_records (s : ByteArray) (w : World) :
    Calls Tryd.prog 67 #[.string s] w fun e w' => e = .returned (.func (.func 99) #[] #[.pointer (some ⟨w.heap.size, 0, none⟩)]) ∧ w' = w.alloc (.cells #[.string s] 9) := by
  go_enter Tryd.func67, Tryd.ntmps67
  go_wp2_with fail
  go_ret
  exact ⟨rfl, rfl⟩
/-- The result's block and the outcome's, with the code. -/
structure Rc (w W : World) (v : Value) (u c : Int) : Prop where
  o0 : W.cell? ⟨w.heap.size + 1, 0, none⟩ = some v
  o1 : W.cell? ⟨w.heap.size + 1, 1, none⟩ = some (.int .i64 u)
  o2 : W.cell? ⟨w.heap.size + 1, 2, none⟩ = some (.int .i64 c)
  of : ∀ j, W.frozen? ⟨w.heap.size + 1, j, none⟩ = false
  ot : ∃ cs q, W.heap[w.heap.size + 1]? = some (.cells cs 50 q)
  x0 : W.cell? ⟨w.heap.size, 0, none⟩ = some (.slice none 0 0)
  x1 : W.cell? ⟨w.heap.size, 1, none⟩ = some (.int .i64 0)
  x2 : W.cell? ⟨w.heap.size, 2, none⟩ = some (.int .i64 0)
  xf : ∀ j, W.frozen? ⟨w.heap.size, j, none⟩ = false
  lt : w.heap.size + 3 ≤ W.heap.size
  bel : Below w.heap.size w W
theorem Rc.grown {w W W' : World} {v : Value} {u c : Int} {row : Option Nat} (h : Rc w W v u c) (hg : W.grownBy W' row) (hr : ∀ b, row = some b → w.heap.size + 2 ≤ b) : Rc w W' v u c := by
  have hl := h.lt
  have g0 := hg.block w.heap.size (by omega) (fun e => by have := hr _ e.symm; omega)
  have g1 := hg.block (w.heap.size + 1) (by omega) (fun e => by have := hr _ e.symm; omega)
  obtain ⟨cs, q, hq⟩ := h.ot
  exact ⟨(World.cell?_of_block (a := ⟨w.heap.size + 1, 0, none⟩) g1).trans h.o0, (World.cell?_of_block (a := ⟨w.heap.size + 1, 1, none⟩) g1).trans h.o1, (World.cell?_of_block (a := ⟨w.heap.size + 1, 2, none⟩) g1).trans h.o2, fun j => (World.frozen?_of_block (a := ⟨w.heap.size + 1, j, none⟩) g1).trans (h.of j), ⟨cs, q, g1.trans hq⟩,
    (World.cell?_of_block (a := ⟨w.heap.size, 0, none⟩) g0).trans h.x0, (World.cell?_of_block (a := ⟨w.heap.size, 1, none⟩) g0).trans h.x1, (World.cell?_of_block (a := ⟨w.heap.size, 2, none⟩) g0).trans h.x2, fun j => (World.frozen?_of_block (a := ⟨w.heap.size, j, none⟩) g0).trans (h.xf j), Nat.le_trans hl hg.size, h.bel.grown hg (by omega) (fun b e => by have := hr b e; omega)⟩
theorem Rc.next {w W W' : World} {v : Value} {u c : Int} (h : Rc w W v u c) (hb : Below W.heap.size W W') : Rc w W' v u c := h.grown (quietly hb) (fun b e => by cases e)
theorem typed {W : World} {B j : Nat} {t : TypeId} {u : Value} (h : ∃ cs q, W.heap[B]? = some (.cells cs t q)) : ∃ cs q, (W.setCell ⟨B, j, none⟩ u).heap[B]? = some (.cells cs t q) := by
  obtain ⟨cs, q, h⟩ := h
  obtain ⟨hlt, hk⟩ := Array.getElem?_eq_some_iff.1 h
  refine ⟨cs.setIfInBounds j u, q, ?_⟩
  show (W.heap.modify B _)[B]? = _
  rw [Array.getElem?_eq_getElem (by rw [Array.size_modify]; exact hlt), Array.getElem_modify_self, hk]
  rfl
theorem Rc.set {w W : World} {v v' : Value} {u u' c : Int} (h : Rc w W v u c) : Rc w ((W.setCell ⟨w.heap.size + 1, 0, none⟩ v').setCell ⟨w.heap.size + 1, 1, none⟩ (.int .i64 u')) v' u' c := by
  obtain ⟨o0, o1, o2, ofz, ot, x0, x1, x2, xf, xlt, xbel⟩ := h
  refine ⟨?_, ?_, ?_, fun j => ?_, typed (typed ot), ?_, ?_, ?_, fun j => ?_, by simpa using xlt, (xbel.setCell (by show w.heap.size ≤ w.heap.size + 1; omega) _).setCell (by show w.heap.size ≤ w.heap.size + 1; omega) _⟩
  · simp [go_sem, o0]
  · simp [go_sem, o1]
  · simp [go_sem, o2]
  · simp only [World.frozen?_setCell]; exact ofz j
  · simp [go_sem, x0]
  · simp [go_sem, x1]
  · simp [go_sem, x2]
  · simp only [World.frozen?_setCell]; exact xf j
theorem Rc.code {w W : World} {v : Value} {u c c' : Int} (h : Rc w W v u c) : Rc w (W.setCell ⟨w.heap.size + 1, 2, none⟩ (.int .i64 c')) v u c' := by
  obtain ⟨o0, o1, o2, ofz, ot, x0, x1, x2, xf, xlt, xbel⟩ := h
  refine ⟨?_, ?_, ?_, fun j => ?_, typed ot, ?_, ?_, ?_, fun j => ?_, by simpa using xlt, xbel.setCell (by show w.heap.size ≤ w.heap.size + 1; omega) _⟩
  · simp [go_sem, o0]
  · simp [go_sem, o1]
  · simp [go_sem, o2]
  · simp only [World.frozen?_setCell]; exact ofz j
  · simp [go_sem, x0]
  · simp [go_sem, x1]
  · simp [go_sem, x2]
  · simp only [World.frozen?_setCell]; exact xf j
def usedOf (s : ByteArray) (pre : List Nat) : Nat := match pre.getLast? with
  | none => 0
  | some a => (readR s a).2.1
theorem usedOf_snoc (s : ByteArray) (pre : List Nat) (x : Nat) : usedOf s (pre ++ [x]) = (readR s x).2.1 := by simp [usedOf]
theorem usedOf_upto (s : ByteArray) (k : Nat) : usedOf s (uptoA s k) = seqA s k := by
  cases k with
  | zero => rfl
  | succ k => rw [uptoA_succ, usedOf_snoc]; rfl
def bodyV (s : ByteArray) (a : Nat) : Value := .string (readR s a).1
theorem bodyV_upto (s : ByteArray) (k : Nat) : (uptoA s k).map (bodyV s) = textsC (recT s) k := by
  induction k with
  | zero => rfl
  | succ k ih => rw [uptoA_succ, List.map_append, ih]; rfl
/-- Between two rounds; and where a round has left. -/
def Ib (s : ByteArray) (w : World) (pre : List Nat) (W : World) : Prop := ∃ v, Rc w W v (usedOf s pre : Int) 0 ∧ W.ownsRow (w.heap.size + 3) 9 1 v pre.length (pre.map (bodyV s)) ∧ ∀ a ∈ pre, (readR s a).2.2 = 0
def Ibx (s : ByteArray) (w : World) (cd : Code) (xs : List Nat) (W : World) : Prop := cd = .exit 0 ∧ ∃ pre x v, xs = pre ++ [x] ∧ (readR s x).2.2 ≠ 0 ∧ Rc w W v (usedOf s pre : Int) (readR s x).2.2 ∧ W.ownsRow (w.heap.size + 3) 9 1 v pre.length (pre.map (bodyV s))
theorem own_apart {W : World} {B n : Nat} {v : Value} {xs : List Value} {row : Option Nat} (h : W.ownsRow B 9 1 v n xs) (hr : ∀ r, row = some r → ∃ o : Obj, W.heap[r]? = some o ∧ o.isCells = false) : v.ownBlock = none ∨ v.ownBlock ≠ row := by
  rcases h.2 with ⟨rfl, _⟩ | ⟨g, cap, cur, rfl, _, hgb, _⟩
  · exact .inl rfl
  · refine .inr fun e' => ?_
    obtain ⟨o, ho, hc⟩ := hr g (by simpa [Value.ownBlock] using e'.symm)
    rw [hgb] at ho; cases ho; cases hc
theorem Ib.own (s : ByteArray) (w : World) (B : Nat) (hB : w.heap.size + 2 ≤ B) : OwnFrom B (Ib s w) := fun _ _ _ _ ⟨v, h1, h2, h3⟩ hg hr =>
  ⟨v, h1.grown hg (fun b e => Nat.le_trans hB (hr b e).1), h2.kept hg (own_apart h2 (fun r e => (hr r e).2)), h3⟩
theorem Ibx.own (s : ByteArray) (w : World) (B : Nat) (hB : w.heap.size + 2 ≤ B) (cd : Code) : OwnFrom B (Ibx s w cd) := fun _ _ _ _ ⟨h0, pre, x, v, h1, h2, h3, h4⟩ hg hr =>
  ⟨h0, pre, x, v, h1, h2, h3.grown hg (fun b e => Nat.le_trans hB (hr b e).1), h4.kept hg (own_apart h4 (fun r e => (hr r e).2))⟩
def Axb (s : ByteArray) (w : World) (x : Nat) (a' : Act) (W : World) : Prop := ∃ Bx, w.heap.size + 3 ≤ Bx ∧ W.heap[Bx]? = some (.cells #[.string (readR s x).1, .int .i64 ((readR s x).2.1 : Int)] 105) ∧ a' = { tmps := #[.string s, undef, .pointer (some ⟨w.heap.size, 0, none⟩), .pointer (some ⟨w.heap.size + 1, 0, none⟩), .pointer (some ⟨Bx, 0, none⟩), errOf (readR s x).2.2, .string s, .int .i64 (s.size : Int), .bool false, undef, .string s, .func (.func 99) #[] #[.pointer (some ⟨w.heap.size + 1 + 1, 0, none⟩)], .agg #[.string (readR s x).1, .int .i64 ((readR s x).2.1 : Int)], errOf (readR s x).2.2, undef, undef, undef, undef, undef, undef, undef, undef, undef, undef, undef, undef, undef, undef, undef, undef], defers := [] }
theorem Axb.own (s : ByteArray) (w : World) (B : Nat) (x : Nat) (a' : Act) : OwnFrom B (fun (_ : Unit) W => Axb s w x a' W) := fun _ _ _ _ ⟨Bx, h1, h2, h3⟩ hg hr =>
  ⟨Bx, h1, (hg.block Bx (Array.getElem?_eq_some_iff.1 h2).1 (fun e => by obtain ⟨_, o, ho, hc⟩ := hr Bx e.symm; rw [h2] at ho; cases ho; cases hc)).trans h2, h3⟩
theorem Kr.put {Bs B : Nat} (hB : Bs < B) (W : World) (l : Nat) (o o' : Obj) (hl : B ≤ l) (h : W.heap[l]? = some o) (hc : o.isCells = false) : Kr Bs W (W.putObj l o') := by
  have hg := grownBy_putObj' W l o'
  have hlt := (Array.getElem?_eq_some_iff.1 h).1
  refine ⟨hg.size, hg.block Bs (by omega) (fun e => by cases e; omega), fun g cs e => ?_⟩
  exact (hg.block g (Array.getElem?_eq_some_iff.1 e).1 (fun e' => by cases e'; rw [h] at e; cases e; cases hc)).trans e
theorem Kr.alloc {Bs : Nat} {W : World} (hB : Bs < W.heap.size) (o : Obj) : Kr Bs W (W.alloc o) := by
  have hg := World.grownBy_alloc W o none
  exact ⟨hg.size, hg.block Bs hB (by simp), fun g cs e => (hg.block g (Array.getElem?_eq_some_iff.1 e).1 (by simp)).trans e⟩
theorem Kr.set {Bs B j : Nat} {W : World} {u : Value} (hB : Bs < W.heap.size) (hne : Bs ≠ B) (ht : ∃ cs q, W.heap[B]? = some (.cells cs 50 q)) : Kr Bs W (W.setCell ⟨B, j, none⟩ u) := by
  obtain ⟨cs', q, hq⟩ := ht
  have hg : W.grownBy (W.setCell ⟨B, j, none⟩ u) (some B) := setGrown (World.grownBy.refl _ _)
  refine ⟨hg.size, hg.block Bs hB (fun e => by cases e; exact hne rfl), fun g cs e => (hg.block g (Array.getElem?_eq_some_iff.1 e).1 (fun e' => ?_)).trans e⟩
  cases e'; rw [hq] at e; cases e
end Go.Proofs.YthjanamnkhggfaaDoor
