/- The program's way through code: what stands in memory, and what its call that comes to a place does. -/
import Derived.Test.YtdbahildcecgbaaDoorInsI
import Derived.Test.YtdbahildcecgbaaDoorCodeN
import Derived.Laws.OwnMore
import Derived.OwnWalk
namespace Go.Proofs.YtdbahildcecgbaaDoor
open Go.RowKit
open Go.Proofs.YtdbahildcecgbaaDoor.Draw

def rowI (W : List Nat) : List Value := W.map fun (j : Nat) => Value.int .i64 (j : Int)
theorem rowI_snoc (W : List Nat) (k : Nat) : rowI (W ++ [k]) = rowI W ++ [.int .i64 (k : Int)] := by unfold rowI; rw [List.map_append]; rfl
theorem rowI_len (W : List Nat) : (rowI W).length = W.length := by unfold rowI; rw [List.length_map]
def levF (lv : Nat → Int) (j : Nat) : Value := .int .i64 (lv j + 1)
/-- The block C of the way through the code of a module: its levels stand in block G, its waiting places beyond B. -/
structure Clm (w0 w : World) (B C G : Nat) (z0 z1 z2 z3 : Int) (a : Option Addr) (n c : Nat) (lv : Nat → Int) (W : List Nat) : Prop where
  m0 : w.cell? ⟨C, 0, none⟩ = some (.int .i64 z0)
  m1 : w.cell? ⟨C, 1, none⟩ = some (.int .i64 z1)
  m2 : w.cell? ⟨C, 2, none⟩ = some (.int .i64 z2)
  m3 : w.cell? ⟨C, 3, none⟩ = some (.int .i64 z3)
  m4 : w.cell? ⟨C, 4, none⟩ = some (.slice a n c)
  m5 : w.cell? ⟨C, 5, none⟩ = some (.slice (some ⟨G, 0, none⟩) n n)
  row : ∃ v, w.cell? ⟨C, 6, none⟩ = some v ∧ w.ownsRow B 2 1 v W.length (rowI W)
  own : Own w G n (levF lv)
  frz : ∀ j, w.frozen? ⟨C, j, none⟩ = false
  lt : w0.heap.size ≤ G ∧ w0.heap.size ≤ C ∧ G < B ∧ C < B ∧ C ≠ G ∧ C < w.heap.size ∧ B ≤ w.heap.size
  bel : Below w0.heap.size w0 w
theorem Clm.next {w0 w : World} {B C G : Nat} {z0 z1 z2 z3 : Int} {a : Option Addr} {n c : Nat} {lv : Nat → Int} {W : List Nat} {w' : World} (h : Clm w0 w B C G z0 z1 z2 z3 a n c lv W) (hb : Below w.heap.size w w') : Clm w0 w' B C G z0 z1 z2 z3 a n c lv W := by
  have hl := h.lt
  have hc := fun (j : Nat) (v : Value) (e : w.cell? ⟨C, j, none⟩ = some v) => (hb.cell (p := ⟨C, j, none⟩) hl.2.2.2.2.2.1).trans e
  obtain ⟨v, hv, ho⟩ := h.row
  exact ⟨hc _ _ h.m0, hc _ _ h.m1, hc _ _ h.m2, hc _ _ h.m3, hc _ _ h.m4, hc _ _ h.m5, ⟨v, hc _ _ hv, own_below ho hb⟩, h.own.below hb, fun j => (hb.frozen (p := ⟨C, j, none⟩) hl.2.2.2.2.2.1).trans (h.frz j), ⟨hl.1, hl.2.1, hl.2.2.1, hl.2.2.2.1, hl.2.2.2.2.1, by have := hb.size; omega, by have := hb.size; omega⟩, h.bel.trans (hb.mono h.bel.size)⟩
theorem Clm.drew {w0 w : World} {B C G : Nat} {z0 z1 z2 z3 : Int} {a : Option Addr} {n c : Nat} {lv : Nat → Int} {W : List Nat} (h : Clm w0 w B C G z0 z1 z2 z3 a n c lv W) : Clm w0 w.drew B C G z0 z1 z2 z3 a n c lv W := h.next (Below.refl _ _).drew
/-- Blocks of other types stay as they are. -/
def Kept2 (w w' : World) (C G : Nat) : Prop := ∀ j cs t, t ≠ 2 → j ≠ G → j ≠ C → w.heap[j]? = some (.cells cs t (0, 0)) → w'.heap[j]? = some (.cells cs t (0, 0))
theorem Kept2.refl (w : World) (C G : Nat) : Kept2 w w C G := fun _ _ _ _ _ _ h => h
theorem levF_put (lv : Nat → Int) (k : Nat) (z : Int) (j : Nat) : levF (putL lv k z) j = if j = k then .int .i64 (z + 1) else levF lv j := by
  unfold levF putL; split <;> rfl
theorem Clm.push {w0 w : World} {B C G : Nat} {z0 z1 z2 z3 : Int} {a : Option Addr} {n c : Nat} {lv : Nat → Int} {W : List Nat} {v v' : Value} {w2 : World} {o : Obj} {k : Nat} {z : Int} (h : Clm w0 w B C G z0 z1 z2 z3 a n c lv W) (hk : k < n) (hv : w.cell? ⟨C, 6, none⟩ = some v) (ho : w.ownsRow B 2 1 v W.length (rowI W))
    (hg : ((w.setCell ⟨G, k, none⟩ (.int .i64 (z + 1))).alloc o).grownBy w2 v.ownBlock) (ho' : w2.ownsRow B 2 1 v' (W.length + 1) (rowI W ++ [.int .i64 (k : Int)])) : Clm w0 (w2.setCell ⟨C, 6, none⟩ v') B C G z0 z1 z2 z3 a n c (putL lv k z) (W ++ [k]) ∧ w2.cell? ⟨C, 6, none⟩ = some v ∧ w2.frozen? ⟨C, 6, none⟩ = false ∧ Kept2 w (w2.setCell ⟨C, 6, none⟩ v') C G := by
  obtain ⟨l1, l2, l3, l4, l5, l6, l7⟩ := h.lt
  have hs := hg.size
  simp at hs
  have hnc : some C ≠ v.ownBlock := fun e => by have := (ho.lt C e.symm).1; omega
  have hng : some G ≠ v.ownBlock := fun e => by have := (ho.lt G e.symm).1; omega
  have hcC : ∀ j x, w.cell? ⟨C, j, none⟩ = some x → w2.cell? ⟨C, j, none⟩ = some x := fun j x e => by
    refine hg.cell ?_ hnc
    rw [World.cell?_alloc_old (a := ⟨C, j, none⟩) _ _ (by simp; omega)]
    rw [World.cell?_setCell_other _ _ _ _ (by first | (simp; done) | (simp; omega))]
    exact e
  have hO1 : Own ((w.setCell ⟨G, k, none⟩ (.int .i64 (z + 1))).alloc o) G n (levF (putL lv k z)) := ((h.own.set hk (.int .i64 (z + 1))).congr (fun j _ => (levF_put lv k z j).symm)).below ((Below.refl _ _).alloc (Nat.le_refl _) _)
  have hb2 := hg.block G hO1.1 hng
  have hO2 : Own w2 G n (levF (putL lv k z)) := ⟨Nat.lt_of_lt_of_le hO1.1 hg.size, fun j hj => (World.cell?_of_block (a := ⟨G, j, none⟩) hb2).trans (hO1.2.1 j hj), fun j => (World.frozen?_of_block (a := ⟨G, j, none⟩) hb2).trans (hO1.2.2 j)⟩
  have hm : ∀ j x, j ≠ 6 → w.cell? ⟨C, j, none⟩ = some x → (w2.setCell ⟨C, 6, none⟩ v').cell? ⟨C, j, none⟩ = some x := fun j x hj e => by
    rw [World.cell?_setCell_other _ _ _ _ (by first | (simp; done) | (simp; omega))]
    exact hcC j x e
  have hrow : (w2.setCell ⟨C, 6, none⟩ v').ownsRow B 2 1 v' (W ++ [k]).length (rowI (W ++ [k])) := by
    rw [rowI_snoc, List.length_append, List.length_singleton]
    refine ho'.kept (setGrown (World.grownBy.refl w2 (some C))) (Or.inr fun e => ?_)
    have := (ho'.lt C e).1
    omega
  have hbl : Below w0.heap.size w0 (w2.setCell ⟨C, 6, none⟩ v') := by
    have hb1 : Below w0.heap.size w0 ((w.setCell ⟨G, k, none⟩ (.int .i64 (z + 1))).alloc o) := (h.bel.setCell l1 _).alloc (by simp; have := h.bel.size; omega) o
    exact (hb1.grown hg (by have := h.bel.size; simp; omega) (fun j hj => by have := (ho.lt j hj).1; omega)).setCell l2 _
  have c6 := hcC 6 v hv
  have hfz : ∀ j, w2.frozen? ⟨C, j, none⟩ = false := fun j => by
    have hf := h.frz j
    have f1 : ((w.setCell ⟨G, k, none⟩ (.int .i64 (z + 1))).alloc o).frozen? ⟨C, j, none⟩ = false := (((Below.refl _ _).alloc (Nat.le_refl _) o).frozen (p := ⟨C, j, none⟩) (by simpa using l6)).trans (by simp [hf])
    exact (World.frozen?_of_block (a := ⟨C, j, none⟩) (hg.block C (by simp; omega) hnc)).trans f1
  refine ⟨⟨hm 0 _ (by omega) h.m0, hm 1 _ (by omega) h.m1, hm 2 _ (by omega) h.m2, hm 3 _ (by omega) h.m3, hm 4 _ (by omega) h.m4, hm 5 _ (by omega) h.m5, ⟨v', ?_, hrow⟩, hO2.far (Ne.symm l5), fun j => ?_, ⟨l1, l2, l3, l4, l5, by simp; omega, by simp; omega⟩, hbl⟩, c6, hfz 6, fun j cs t ht hjG hjC hb => ?_⟩
  · simp [go_sem, c6]
  · have f2 := hfz j
    simp [f2]
  · have hjl : j < w.heap.size := (Array.getElem?_eq_some_iff.1 hb).1
    have hjr : some j ≠ v.ownBlock := fun e => by
      rcases ho with ⟨_, ⟨rfl, _⟩ | ⟨g, cap, cur, rfl, _, hbg, _⟩⟩
      · exact absurd e (by simp [Value.ownBlock])
      · have e' : j = g := by simpa [Value.ownBlock] using e
        subst e'
        rw [hb] at hbg
        cases hbg
        exact ht rfl
    rw [heap_setCell_other _ _ _ _ (by simpa using hjC)]
    rw [hg.block j (by simp; omega) hjr]
    rw [Below.heap_alloc _ _ _ (by simpa using hjl)]
    rw [heap_setCell_other _ _ _ _ (by simpa using hjG)]
    exact hb
theorem own_slice {w : World} {B e size n : Nat} {v : Value} {xs : List Value} (h : w.ownsRow B e size v n xs) : ∃ a c, v = .slice a n c := by
  rcases h with ⟨_, ⟨rfl, h⟩ | ⟨g, cap, cur, rfl, _⟩⟩
  · exact ⟨none, 0, by rw [h]⟩
  · exact ⟨_, _, rfl⟩
theorem one_cellN {w : World} {b : Nat} (hb : b = w.heap.size) (x : Value) : ∀ j u, [x][j]? = some u → (w.alloc (.cells #[x] 2)).cell? ((⟨b, 0, none⟩ : Addr).add j) = some u := by
  subst hb
  intro j u hj
  match j, hj with
  | 0, hj => simp at hj; subst hj; simp [Addr.add]
theorem one_oneN (k : IntKind) (n : Int) : ∀ u ∈ [Value.int k n], u.oneCell' = true := by
  intro u hu; simp at hu; subst hu; rfl
def RchOut (w0 : World) (B C G : Nat) (z0 z1 z2 z3 : Int) (a : Option Addr) (n c : Nat) (lv : Nat → Int) (W : List Nat) (k : Nat) (h : Int) (w : World) (e : Ending) (w' : World) : Prop := ∃ b lv' W', e = .returned (.bool b) ∧ Clm w0 w' B C G z0 z1 z2 z3 a n c lv' W' ∧ Kept2 w w' C G ∧ (if b then k < n ∧ h ≤ 60 ∧ Stp lv W lv' W' k h else NoStp n lv k h ∧ lv' = lv ∧ W' = W)
theorem infoN : (Tryd.prog.info? 2).map (fun i => (i.zero, i.size, i.bytes)) = some (some (.int .i64 0), 1, 8) := by kernel_rfl
set_option maxRecDepth 100000 in
set_option maxHeartbeats 8000000 in
theorem impl_reach {w0 w : World} {B C G : Nat} {z0 z1 z2 z3 : Int} {a : Option Addr} {n c : Nat} {lv : Nat → Int} {W : List Nat} (_hn : n ≤ 2000) (k : Nat) (_hk : k ≤ 2000) (h : Int) (h0 : 0 ≤ h) (hh : h ≤ 1000) (hlo : ∀ j, j < n → -1 ≤ lv j) (hhi : ∀ j, j < n → lv j ≤ 60) (hW : W.length ≤ 100000) (hC : Clm w0 w B C G z0 z1 z2 z3 a n c lv W) :
    Calls Tryd.prog 45 #[.pointer (some ⟨C, 0, none⟩), .int .i64 (k : Int), .int .i64 h] w (RchOut w0 B C G z0 z1 z2 z3 a n c lv W k h w) := by
  obtain ⟨i0, hi, hz0, hz1, hz2⟩ := info_parts infoN
  have HC : Hid (Clm w0 w B C G z0 z1 z2 z3 a n c lv W) := hC
  have m5 := hC.m5
  by_cases hkn : k < n
  rotate_left
  · have q0 : decide (n ≤ k) = true := by simp; omega
    have q1 : decide ((n : Int) ≤ (k : Int)) = true := by simp; omega
    have HR : Hid (NoStp n lv k h) := Or.inl (by omega)
    clear hC hlo hhi hkn
    go_enter Tryd.func45, Tryd.ntmps45
    go_wp2_with fail
    go_ret
    exact ⟨false, lv, W, rfl, HC.out, Kept2.refl _ _ _, HR.out, rfl, rfl⟩
  have q0 : decide (n ≤ k) = false := by simp; omega
  have q1 : decide ((n : Int) ≤ (k : Int)) = false := by simp; omega
  by_cases h6 : h ≤ 60
  rotate_left
  · have q2 : decide (60 < h) = true := by simp; omega
    have HR : Hid (NoStp n lv k h) := Or.inr (Or.inl (by omega))
    clear hC hlo hhi hkn
    go_enter Tryd.func45, Tryd.ntmps45
    go_wp2_with fail
    go_ret
    exact ⟨false, lv, W, rfl, HC.out, Kept2.refl _ _ _, HR.out, rfl, rfl⟩
  have q2 : decide (60 < h) = false := by simp; omega
  have a0 : w.cell? ⟨G, k, none⟩ = some (.int .i64 (lv k + 1)) := hC.own.2.1 k hkn
  have b1 := hlo k hkn
  have b2 := hhi k hkn
  have hw : IntKind.i64.wrap (h + 1) = h + 1 := IntWalk.i64_in _ (by omega)
  by_cases hz : lv k < 0
  rotate_left
  · have q3 : (lv k + 1 == 0) = false := beq_eq_false_iff_ne.2 (by omega)
    by_cases he : lv k = h
    · have HR : Hid (k < n ∧ h ≤ 60 ∧ Stp lv W lv W k h) := ⟨hkn, h6, Or.inr ⟨he, rfl, rfl⟩⟩
      have q4 : (lv k + 1 == h + 1) = true := by rw [he]; simp
      generalize lv k + 1 = z at *
      clear hC hlo hhi he b1 b2
      go_enter Tryd.func45, Tryd.ntmps45
      go_wp2_with fail
      go_ret
      exact ⟨true, lv, W, rfl, HC.out, Kept2.refl _ _ _, HR.out⟩
    · have HR : Hid (NoStp n lv k h) := Or.inr (Or.inr ⟨hkn, by omega, he⟩)
      have q4 : (lv k + 1 == h + 1) = false := beq_eq_false_iff_ne.2 (by omega)
      generalize lv k + 1 = z at *
      clear hC hlo hhi he b1 b2
      go_enter Tryd.func45, Tryd.ntmps45
      go_wp2_with fail
      go_ret
      exact ⟨false, lv, W, rfl, HC.out, Kept2.refl _ _ _, HR.out, rfl, rfl⟩
  have e0 : lv k + 1 = 0 := by omega
  rw [e0] at a0
  have f0 : w.frozen? ⟨G, k, none⟩ = false := hC.own.2.2 k
  obtain ⟨v, hv, ho⟩ := hC.row
  obtain ⟨l1, l2, l3, l4, l5, l6, l7⟩ := hC.lt
  have l5' : G ≠ C := Ne.symm l5
  have HR : Hid (k < n ∧ h ≤ 60 ∧ Stp lv W (putL lv k h) (W ++ [k]) k h) := ⟨hkn, h6, Or.inl ⟨hz, rfl, rfl⟩⟩
  have HO : Hid (w.ownsRow B 2 1 v W.length (rowI W)) := ho
  have fz := hC.frz 6
  have hg6 : (h + 1 == h + 1) = true := by simp
  have HOs : Hid ((w.setCell ⟨G, k, none⟩ (.int .i64 (h + 1))).ownsRow B 2 1 v W.length (rowI W)) := ho.kept (setGrown (World.grownBy.refl w (some G))) (Or.inr fun e => by have := (ho.lt G e).1; omega)
  have hszB : B ≤ (w.setCell ⟨G, k, none⟩ (.int .i64 (h + 1))).heap.size := by simpa using l7
  clear hC hlo hhi hz ho b1 b2 e0
  go_enter Tryd.func45, Tryd.ntmps45
  go_wp2_with (at_builtin; refine wpList_append_own _ rfl (.tmp 38) (.tmp 40) 50 rfl B 2 i0 (.int .i64 0) 1 8 Tryd.underlying50 hi hz0 hz1 hz2 rfl (by decide) _ _ _ rfl (HOs.out.alloc _) ⟨w.heap.size, 0, none⟩ 1 1 [.int .i64 (k : Int)] rfl rfl ?c1 ?c2 ?c3 ?c4 ?c5 ?_)
  case c1 => exact one_cellN (by simp) _
  case c2 => exact one_oneN _ _
  case c3 => unfold maxLen; omega
  case c4 => omega
  case c5 => simp; omega
  intro v' w2 hown2 hg2 _
  obtain ⟨av, cv, hvv⟩ := own_slice hown2
  subst hvv
  obtain ⟨hR, c6, z6, hK⟩ := Clm.push (z := h) HC.out hkn hv HO.out hg2 hown2
  have HR3 : Hid (Clm w0 (w2.setCell ⟨C, 6, none⟩ (.slice av (W.length + 1) cv)) B C G z0 z1 z2 z3 a n c (putL lv k h) (W ++ [k])) := hR
  have HK3 : Hid (Kept2 w (w2.setCell ⟨C, 6, none⟩ (.slice av (W.length + 1) cv)) C G) := hK
  clear hK hR hown2 hg2 HOs HO a0 f0 fz m5
  go_upto_region 6 with fail
  obtain ⟨w3, hw3⟩ : ∃ X, X = w2.setCell ⟨C, 6, none⟩ (.slice av (W.length + 1) cv) := ⟨_, rfl⟩
  rw [← hw3] at HR3 HK3 ⊢
  clear hw3 c6 z6
  have m5 := HR3.out.m5
  have a0 : w3.cell? ⟨G, k, none⟩ = some (.int .i64 (h + 1)) := by rw [HR3.out.own.2.1 k hkn, levF_put, if_pos rfl]
  go_wp2_with fail
  go_ret
  exact ⟨true, putL lv k h, W ++ [k], rfl, HR3.out, HK3.out, HR.out⟩
end Go.Proofs.YtdbahildcecgbaaDoor
