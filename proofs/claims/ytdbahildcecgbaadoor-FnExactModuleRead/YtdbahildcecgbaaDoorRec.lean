/- Cells of a block by number; the laws' mark texts; spots (two texts) handed over: what each call does. -/
import Derived.Test.YtdbahildcecgbaaDoorBase
import Derived.Test.YtdbahildcecgbaaDoorName
import Derived.Test.YtdbahildcecgbaaDoorRight
import Derived.OwnWalk
import Derived.OwnWalkIn
import Derived.Laws.OwnMore
import Derived.Laws.IdiomStrings
namespace Go.Proofs.YtdbahildcecgbaaDoor
open Go.RowKit
open Go.Proofs.YtdbahildcecgbaaDoor.Draw

/-- N cells of a block, read by number; none frozen. -/
def Own (w : World) (g N : Nat) (F : Nat → Value) : Prop := g < w.heap.size ∧ (∀ j, j < N → w.cell? ⟨g, j, none⟩ = some (F j)) ∧ ∀ j, w.frozen? ⟨g, j, none⟩ = false
theorem Own.below {w w' : World} {g N : Nat} {F : Nat → Value} (h : Own w g N F) (hb : Below w.heap.size w w') : Own w' g N F :=
  ⟨Nat.lt_of_lt_of_le h.1 hb.size, fun j hj => (hb.cell (p := ⟨g, j, none⟩) h.1).trans (h.2.1 j hj), fun j => (hb.frozen (p := ⟨g, j, none⟩) h.1).trans (h.2.2 j)⟩
theorem Own.grown {w w' : World} {g N q : Nat} {F : Nat → Value} (h : Own w g N F) (hg : w.grownBy w' (some q)) (hne : g ≠ q) : Own w' g N F := by
  have hb := hg.block g h.1 (by simpa using hne)
  exact ⟨Nat.lt_of_lt_of_le h.1 hg.size, fun j hj => (World.cell?_of_block (a := ⟨g, j, none⟩) hb).trans (h.2.1 j hj), fun j => (World.frozen?_of_block (a := ⟨g, j, none⟩) hb).trans (h.2.2 j)⟩
theorem Own.set {w : World} {g N i : Nat} {F : Nat → Value} (h : Own w g N F) (hi : i < N) (v : Value) : Own (w.setCell ⟨g, i, none⟩ v) g N (fun j => if j = i then v else F j) := by
  refine ⟨by simpa using h.1, fun j hj => ?_, fun j => by simp [h.2.2]⟩
  by_cases e : j = i
  · subst e
    have a0 := h.2.1 j hj
    simp [go_sem, a0]
  · show _ = some (if j = i then v else F j)
    rw [World.cell?_setCell_other _ _ _ _ (by first | (simp; done) | (simp; omega)), h.2.1 j hj, if_neg e]
theorem Own.congr {w : World} {g N : Nat} {F G : Nat → Value} (h : Own w g N F) (e : ∀ j, j < N → F j = G j) : Own w g N G := ⟨h.1, fun j hj => (h.2.1 j hj).trans (by rw [e j hj]), h.2.2⟩
theorem Own.less {w : World} {g N M : Nat} {F : Nat → Value} (h : Own w g N F) (e : M ≤ N) : Own w g M F := ⟨h.1, fun j hj => h.2.1 j (by omega), h.2.2⟩
theorem setGrown {w wr : World} {g j : Nat} {u : Value} (h : w.grownBy wr (some g)) : w.grownBy (wr.setCell ⟨g, j, none⟩ u) (some g) := by
  refine ⟨h.os, h.tape, h.output, by simpa using h.size, fun k hk hne => ?_⟩
  rw [heap_setCell_other _ _ _ _ (by simpa using hne)]
  exact h.block k hk hne
theorem below_grown {w w1 w2 : World} {g : Nat} (h : w.grownBy w1 (some g)) (hb : Below w1.heap.size w1 w2) : w.grownBy w2 (some g) :=
  ⟨hb.os.trans h.os, hb.tape.trans h.tape, hb.output.trans h.output, Nat.le_trans h.size hb.size, fun k hk hne => (hb.block k (Nat.lt_of_lt_of_le hk h.size)).trans (h.block k hk hne)⟩
theorem cnew (w : World) (cs : Array Value) (t : TypeId) (j : Nat) : (w.alloc (.cells cs t)).cell? ⟨w.heap.size, j, none⟩ = cs[j]? := by simp
/-- Three blocks that a call makes first: its argument's, its result's, one of its own. -/
structure Three (w W : World) (cs rs os : Array Value) : Prop where
  box : ∀ j, W.cell? ⟨w.heap.size, j, none⟩ = cs[j]?
  res : ∀ j, W.cell? ⟨w.heap.size + 1, j, none⟩ = rs[j]?
  out : ∀ j, W.cell? ⟨w.heap.size + 1 + 1, j, none⟩ = os[j]?
  rfr : ∀ j, W.frozen? ⟨w.heap.size + 1, j, none⟩ = false
  ofr : ∀ j, W.frozen? ⟨w.heap.size + 1 + 1, j, none⟩ = false
  size : w.heap.size + 3 ≤ W.heap.size
  bel : Below w.heap.size w W
theorem Three.next {w W W' : World} {cs rs os : Array Value} (h : Three w W cs rs os) (hb : Below W.heap.size W W') : Three w W' cs rs os := by
  have hs := h.size
  exact ⟨fun j => (hb.cell (p := ⟨w.heap.size, j, none⟩) (by show w.heap.size < _; omega)).trans (h.box j), fun j => (hb.cell (p := ⟨w.heap.size + 1, j, none⟩) (by show w.heap.size + 1 < _; omega)).trans (h.res j),
    fun j => (hb.cell (p := ⟨w.heap.size + 1 + 1, j, none⟩) (by show w.heap.size + 1 + 1 < _; omega)).trans (h.out j), fun j => (hb.frozen (p := ⟨w.heap.size + 1, j, none⟩) (by show w.heap.size + 1 < _; omega)).trans (h.rfr j),
    fun j => (hb.frozen (p := ⟨w.heap.size + 1 + 1, j, none⟩) (by show w.heap.size + 1 + 1 < _; omega)).trans (h.ofr j), Nat.le_trans hs hb.size, h.bel.trans (hb.mono h.bel.size)⟩
theorem cnew' {w : World} {cs : Array Value} {t : TypeId} {b : Nat} (hb : b = w.heap.size) (j : Nat) : (w.alloc (.cells cs t)).cell? ⟨b, j, none⟩ = cs[j]? := by
  subst hb; rw [World.cell?_alloc_new]
theorem fnew' {w : World} {cs : Array Value} {t : TypeId} {b : Nat} (hb : b = w.heap.size) (j : Nat) : (w.alloc (.cells cs t)).frozen? ⟨b, j, none⟩ = false := by
  subst hb; rw [World.frozen?_alloc_new]
theorem three_new (w : World) (cs rs os : Array Value) (t t' t'' : TypeId) : Three w (((w.alloc (.cells cs t)).alloc (.cells rs t')).alloc (.cells os t'')) cs rs os :=
  ⟨fun j => by rw [World.cell?_alloc_past _ _ _ (by simp; omega), World.cell?_alloc_past _ _ _ (by simp), cnew], fun j => by rw [World.cell?_alloc_past _ _ _ (by simp)]; exact cnew' (by simp) j,
   fun j => cnew' (by simp) j, fun j => by rw [World.frozen?_alloc_past _ _ _ (by simp)]; exact fnew' (by simp) j, fun j => fnew' (by simp) j, by simp, (((Below.refl _ _).alloc (Nat.le_refl _) _).alloc (by simp) _).alloc (by simp; omega) _⟩
theorem Three.set {w W : World} {cs rs os : Array Value} (h : Three w W cs rs os) (i : Nat) (hi : i < os.size) (v : Value) : Three w (W.setCell ⟨w.heap.size + 1 + 1, i, none⟩ v) cs rs (os.setIfInBounds i v) := by
  have hs := h.size
  refine ⟨fun j => ?_, fun j => ?_, fun j => ?_, fun j => by simp [h.rfr], fun j => by simp [h.ofr], by simpa using hs, h.bel.setCell (by show w.heap.size ≤ w.heap.size + 1 + 1; omega) _⟩
  · rw [World.cell?_setCell_other _ _ _ _ (by first | (simp; done) | (simp; omega))]; exact h.box j
  · rw [World.cell?_setCell_other _ _ _ _ (by first | (simp; done) | (simp; omega))]; exact h.res j
  · by_cases e : j = i
    · subst e
      have a0 := h.out j
      rw [Array.getElem?_eq_getElem hi] at a0
      rw [Array.getElem?_setIfInBounds, if_pos rfl, if_pos hi]
      simp [go_sem, a0]
    · rw [World.cell?_setCell_other _ _ _ _ (by first | (simp; done) | (simp; omega)), Array.getElem?_setIfInBounds, if_neg (fun e' => e e'.symm)]
      exact h.out j
/-- Two blocks that a call makes first, of its arguments. -/
structure Both (w W : World) (cs rs : Array Value) : Prop where
  box : ∀ j, W.cell? ⟨w.heap.size, j, none⟩ = cs[j]?
  res : ∀ j, W.cell? ⟨w.heap.size + 1, j, none⟩ = rs[j]?
  size : w.heap.size + 2 ≤ W.heap.size
  bel : Below w.heap.size w W
theorem two_now (w : World) (cs rs : Array Value) (t t' : TypeId) : Both w ((w.alloc (.cells cs t)).alloc (.cells rs t')) cs rs :=
  ⟨fun j => by rw [World.cell?_alloc_past _ _ _ (by simp), cnew], fun j => cnew' (by simp) j, by simp, ((Below.refl _ _).alloc (Nat.le_refl _) _).alloc (by simp) _⟩
theorem Both.next {w W W' : World} {cs rs : Array Value} (h : Both w W cs rs) (hb : Below W.heap.size W W') : Both w W' cs rs := by
  have hs := h.size
  exact ⟨fun j => (hb.cell (p := ⟨w.heap.size, j, none⟩) (by show w.heap.size < _; omega)).trans (h.box j), fun j => (hb.cell (p := ⟨w.heap.size + 1, j, none⟩) (by show w.heap.size + 1 < _; omega)).trans (h.res j), Nat.le_trans hs hb.size, h.bel.trans (hb.mono h.bel.size)⟩
/-- An owned row as cells of its block. -/
theorem own_row {w : World} {B g n cap size : Nat} {e : TypeId} {xs : List Value} {F : Nat → Value} (h : w.ownsRow B e size (.slice (some ⟨g, 0, none⟩) n cap) n xs) (hF : ∀ j, j < n * size → xs[j]? = some (F j)) : Own w g (n * size) F ∧ B ≤ g := by
  obtain ⟨hlen, h0 | ⟨g', cap', cur, hv, hB, hblk, hnc, hm, hsz, htk⟩⟩ := h
  · exact absurd h0.1 (by simp)
  · simp at hv
    obtain ⟨rfl, rfl⟩ := hv
    refine ⟨⟨(Array.getElem?_eq_some_iff.1 hblk).1, fun j hj => ?_, fun j => Lib.frozen_of_heap hblk j⟩, hB⟩
    have := Lib.cell_of_heap hblk j
    rw [this, ← hF j hj, ← htk, List.getElem?_take, if_pos hj]
    simp

theorem own_some {w : World} {B g n cap size : Nat} {e : TypeId} {xs : List Value} (h : w.ownsRow B e size (.slice (some ⟨g, 0, none⟩) n cap) n xs) : ∃ F, Own w g (n * size) F :=
  ⟨fun j => (xs[j]?).getD (.bool false), (own_row h (fun j hj => by rw [List.getElem?_eq_getElem (by rw [h.1]; exact hj)]; simp)).1⟩
/-- A text of one byte. -/
def oneS (x : Nat) : ByteArray := ⟨[UInt8.ofNat x].toArray⟩
/-- The laws' mark texts. -/
def mtF (k : Nat) (out : ByteArray) : ByteArray := if _h : k = 0 then out else mtF (k / 10) (oneS (48 + k % 10) ++ out)
termination_by k
decreasing_by omega
def mtx (k : Nat) : ByteArray := ⟨#[109]⟩ ++ mtF k ⟨#[]⟩
theorem mtF_zero (out : ByteArray) : mtF 0 out = out := by rw [mtF]; simp
theorem mtF_step {k : Nat} (h : k ≠ 0) (out : ByteArray) : mtF k out = mtF (k / 10) (oneS (48 + k % 10) ++ out) := by rw [mtF]; simp [h]

/-- Records of c cells in a block of their own, or none. -/
def OwnR (w : World) (a : Option Addr) (n c : Nat) (F : Nat → Value) : Prop := n = 0 ∨ ∃ g, a = some ⟨g, 0, none⟩ ∧ Own w g (n * c) F
theorem OwnR.below {w w' : World} {a : Option Addr} {n c : Nat} {F : Nat → Value} (h : OwnR w a n c F) (hb : Below w.heap.size w w') : OwnR w' a n c F := by
  rcases h with h | ⟨g, rfl, hO⟩
  · exact Or.inl h
  · exact Or.inr ⟨g, rfl, hO.below hb⟩
theorem OwnR.grown {w w' : World} {a : Option Addr} {n c : Nat} {row : Option Nat} {F : Nat → Value} (h : OwnR w a n c F) (hg : w.grownBy w' row) (hne : ∀ k, a.map Addr.block = some k → some k ≠ row) : OwnR w' a n c F := by
  rcases h with h | ⟨g, rfl, hO⟩
  · exact Or.inl h
  · have hb := hg.block g hO.1 (hne g rfl)
    exact Or.inr ⟨g, rfl, Nat.lt_of_lt_of_le hO.1 hg.size, fun j hj => (World.cell?_of_block (a := ⟨g, j, none⟩) hb).trans (hO.2.1 j hj), fun j => (World.frozen?_of_block (a := ⟨g, j, none⟩) hb).trans (hO.2.2 j)⟩
theorem own_new0 {w : World} {B g e size : Nat} (hg : g = w.heap.size) (hB : B ≤ w.heap.size) : (w.alloc (.cells #[] e)).ownsRow B e size (.slice (some ⟨g, 0, none⟩) 0 0) 0 [] := by
  subst hg; exact World.ownsRow_made w #[] 0 hB (by unfold maxLen; omega) (by simp)
theorem own_below {w w' : World} {B e size n : Nat} {v : Value} {xs : List Value} (h : w.ownsRow B e size v n xs) (hb : Below w.heap.size w w') : w'.ownsRow B e size v n xs := by
  rcases h with ⟨h1, h2 | ⟨g, cap, cur, rfl, hg0, hr, r⟩⟩
  · exact ⟨h1, Or.inl h2⟩
  · exact ⟨h1, Or.inr ⟨g, cap, cur, rfl, hg0, (hb.block g (Array.getElem?_eq_some_iff.1 hr).1).trans hr, r⟩⟩
theorem add_off (g o j : Nat) : (⟨g, o, none⟩ : Addr).add j = ⟨g, o + j, none⟩ := by unfold Addr.add; split <;> simp_all

end Go.Proofs.YtdbahildcecgbaaDoor
