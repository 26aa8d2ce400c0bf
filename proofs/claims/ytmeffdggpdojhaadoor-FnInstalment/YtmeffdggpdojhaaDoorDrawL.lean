/- A drawn loan: five numbers; nothing old is turned. -/
import Derived.Test.YtmeffdggpdojhaaDoorDrawD
import Derived.Deep.RegionHeld3
import Derived.Deep.DeepCutAuto
namespace Go.Proofs.YtmeffdggpdojhaaDoor.Draw
open Go.RowKit

set_option maxHeartbeats 4000000 in
/-- A number drawn below most; the size stays. -/
theorem draw_nz {w0 : World} {a : Option Addr} {len cap : Nat} {zs : List Int} {w : World} {S : Nat} (hS : Src w0 a len cap zs w S) {z0 : Int} (hz : w.cell? ⟨S, 3, none⟩ = some (.int .i64 z0)) (most : Int) (hmo : 1 < most) (hmo1 : most ≤ 9223372036854775807) :
    Calls Tryd.prog 61 #[.pointer (some ⟨S, 0, none⟩), .int .i64 most] w fun e w' => ∃ r : Int, e = .returned (.int .i64 r) ∧ 0 ≤ r ∧ r < most ∧ Src w0 a len cap zs w' S ∧ w'.cell? ⟨S, 3, none⟩ = some (.int .i64 z0) ∧ w.grownBy w' (some S) := by
  obtain ⟨hrow, hsm, hbel, hlo, k, m, z, hk, hm0, hm1, hz0, hz1, hobj⟩ := hS
  have h0 := Lib.cell_of_heap hobj 0
  have hz3 := Lib.cell_of_heap hobj 3
  simp at hz3
  obtain rfl : z = z0 := by rw [hz3] at hz; simpa using hz
  clear hz hz3
  have h1 := Lib.cell_of_heap hobj 1
  have h2 := Lib.cell_of_heap hobj 2
  have hf := Lib.frozen_of_heap hobj
  simp at h0 h1 h2
  obtain ⟨m1, e1, b1, c1⟩ := mixed m (IntKind.u64.wrap (m * 8192))
  obtain ⟨m2, e2, b2, c2⟩ := mixed m1 (m1 / 128)
  obtain ⟨m3, e3, b3, c3⟩ := mixed m2 (IntKind.u64.wrap (m2 * 131072))
  have fin : ∀ (k' : Nat) (w' : World), k' ≤ len → w.grownBy w' (some S) → w'.heap[S]? = some (.cells #[.slice a len cap, .int .i64 k', .int .u64 m3, .int .i64 z] 132 (0, 0)) → Src w0 a len cap zs w' S ∧ w'.cell? ⟨S, 3, none⟩ = some (.int .i64 z) ∧ w.grownBy w' (some S) := fun k' w' hk' hg hh =>
    ⟨⟨hrow, hsm, hbel.grown hg hbel.size (fun j hj => by cases hj; exact hlo), hlo, k', m3, z, hk', b3, c3, hz0, hz1, hh⟩, by have := Lib.cell_of_heap hh 3; simpa using this, hg⟩
  have Hfin : Hid (∀ (k' : Nat) (w' : World), k' ≤ len → w.grownBy w' (some S) → w'.heap[S]? = some (.cells #[.slice a len cap, .int .i64 k', .int .u64 m3, .int .i64 z] 132 (0, 0)) → Src w0 a len cap zs w' S ∧ w'.cell? ⟨S, 3, none⟩ = some (.int .i64 z) ∧ w.grownBy w' (some S)) := fin
  clear fin
  by_cases hkl : k < len
  · obtain ⟨b, off, v, rfl, hv0, hv1, hbl, hlc, hcell⟩ := hrow.byte hbel k hkl
    have hd : decide (k < len) = true := by simpa using hkl
    have hh := heap_setCell (heap_setCell (heap_setCell (heap_setCell hobj 1 (.int .i64 ((k : Int) + 1))) 2 (.int .u64 m1)) 2 (.int .u64 m2)) 2 (.int .u64 m3)
    have h3 := Lib.cell_of_heap hh 2
    have h4 := Lib.cell_of_heap (heap_setCell (heap_setCell (heap_setCell hobj 1 (.int .i64 ((k : Int) + 1))) 2 (.int .u64 m1)) 2 (.int .u64 m2)) 2
    have h5 := Lib.cell_of_heap (heap_setCell (heap_setCell hobj 1 (.int .i64 ((k : Int) + 1))) 2 (.int .u64 m1)) 2
    simp at h3 h4 h5
    have hg := grown_setCell (grown_setCell (grown_setCell (grown_setCell (World.grownBy.refl w (some S)) 1 (.int .i64 ((k : Int) + 1))) 2 (.int .u64 m1)) 2 (.int .u64 m2)) 2 (.int .u64 m3)
    have HF : Hid (Src w0 (some ⟨b, off, none⟩) len cap zs ((((w.setCell ⟨S, 1, none⟩ (.int .i64 ((k : Int) + 1))).setCell ⟨S, 2, none⟩ (.int .u64 m1)).setCell ⟨S, 2, none⟩ (.int .u64 m2)).setCell ⟨S, 2, none⟩ (.int .u64 m3)).drew.drew.drew.drew.drew S ∧ ((((w.setCell ⟨S, 1, none⟩ (.int .i64 ((k : Int) + 1))).setCell ⟨S, 2, none⟩ (.int .u64 m1)).setCell ⟨S, 2, none⟩ (.int .u64 m2)).setCell ⟨S, 2, none⟩ (.int .u64 m3)).drew.drew.drew.drew.drew.cell? ⟨S, 3, none⟩ = some (.int .i64 z) ∧ w.grownBy ((((w.setCell ⟨S, 1, none⟩ (.int .i64 ((k : Int) + 1))).setCell ⟨S, 2, none⟩ (.int .u64 m1)).setCell ⟨S, 2, none⟩ (.int .u64 m2)).setCell ⟨S, 2, none⟩ (.int .u64 m3)).drew.drew.drew.drew.drew (some S)) :=
      Hfin.out (k + 1) _ (by omega) (grown_drew (grown_drew (grown_drew (grown_drew (grown_drew hg))))) (by simpa [heap_drew] using hh)
    clear hrow hbel hobj hh hg Hfin
    go_enter Tryd.func61, Tryd.ntmps61
    go_wp2
    go_region
    all_goals go_wp2
    all_goals go_region
    all_goals go_wp2
    all_goals go_region
    all_goals go_wp2
    all_goals go_region
    all_goals go_wp2
    all_goals go_region
    all_goals go_wp2
    go_ret
    have hr := mod_bd (v + m3 / 1048576) most hmo hmo1
    exact ⟨_, ret_int hr.1, hr.2.1, hr.2.2, HF.out.1, HF.out.2.1, HF.out.2.2⟩
  · have hd : decide (k < len) = false := by simpa using hkl
    have hh := heap_setCell (heap_setCell (heap_setCell hobj 2 (.int .u64 m1)) 2 (.int .u64 m2)) 2 (.int .u64 m3)
    have h3 := Lib.cell_of_heap hh 2
    simp at h3
    have hg := grown_setCell (grown_setCell (grown_setCell (World.grownBy.refl w (some S)) 2 (.int .u64 m1)) 2 (.int .u64 m2)) 2 (.int .u64 m3)
    have HF : Hid (Src w0 a len cap zs (((w.setCell ⟨S, 2, none⟩ (.int .u64 m1)).setCell ⟨S, 2, none⟩ (.int .u64 m2)).setCell ⟨S, 2, none⟩ (.int .u64 m3)).drew.drew.drew.drew S ∧ (((w.setCell ⟨S, 2, none⟩ (.int .u64 m1)).setCell ⟨S, 2, none⟩ (.int .u64 m2)).setCell ⟨S, 2, none⟩ (.int .u64 m3)).drew.drew.drew.drew.cell? ⟨S, 3, none⟩ = some (.int .i64 z) ∧ w.grownBy (((w.setCell ⟨S, 2, none⟩ (.int .u64 m1)).setCell ⟨S, 2, none⟩ (.int .u64 m2)).setCell ⟨S, 2, none⟩ (.int .u64 m3)).drew.drew.drew.drew (some S)) :=
      Hfin.out k _ hk (grown_drew (grown_drew (grown_drew (grown_drew hg)))) (by simpa [heap_drew] using hh)
    clear hrow hbel hobj hh hg Hfin
    go_enter Tryd.func61, Tryd.ntmps61
    go_wp2
    go_region
    all_goals go_wp2
    all_goals go_region
    all_goals go_wp2
    all_goals go_region
    all_goals go_wp2
    all_goals go_region
    all_goals go_wp2
    go_ret
    have hr := mod_bd (m3 / 1048576) most hmo hmo1
    exact ⟨_, ret_int hr.1, hr.2.1, hr.2.2, HF.out.1, HF.out.2.1, HF.out.2.2⟩

/-- A number drawn below most, where most is 1 too; the size stays. -/
theorem draw_kz {w0 : World} {a : Option Addr} {len cap : Nat} {zs : List Int} {w : World} {S : Nat} (hS : Src w0 a len cap zs w S) {z0 : Int} (hz : w.cell? ⟨S, 3, none⟩ = some (.int .i64 z0)) (most : Int) (hmo : 1 ≤ most) (hmo1 : most ≤ 9223372036854775807) :
    Calls Tryd.prog 61 #[.pointer (some ⟨S, 0, none⟩), .int .i64 most] w fun e w' => ∃ r : Int, e = .returned (.int .i64 r) ∧ 0 ≤ r ∧ r < most ∧ Src w0 a len cap zs w' S ∧ w'.cell? ⟨S, 3, none⟩ = some (.int .i64 z0) ∧ w.grownBy w' (some S) := by
  by_cases h : most = 1
  · refine (draw_n0 S w most (by omega)).mono ?_
    rintro e w' ⟨rfl, rfl⟩
    exact ⟨0, rfl, by omega, by omega, hS, hz, World.grownBy.refl _ _⟩
  · exact draw_nz hS hz most (by omega) hmo1

/-- A block of five numbers that the call itself made, another one than the source's. -/
structure Five (S q : Nat) (w : World) (x0 x1 x2 x3 x4 : Int) : Prop where
  ne : q ≠ S
  blk : w.heap[q]? = some (.cells #[.int .i64 x0, .int .i64 x1, .int .i64 x2, .int .i64 x3, .int .i64 x4] 24 (0, 0))
theorem Five.drew {S q : Nat} {w : World} {x0 x1 x2 x3 x4 : Int} (h : Five S q w x0 x1 x2 x3 x4) : Five S q w.drew x0 x1 x2 x3 x4 := ⟨h.ne, h.blk⟩
theorem Five.lt {S q : Nat} {w : World} {x0 x1 x2 x3 x4 : Int} (h : Five S q w x0 x1 x2 x3 x4) : q < w.heap.size := (Array.getElem?_eq_some_iff.1 h.blk).1
theorem Five.grown {S q : Nat} {w w' : World} {x0 x1 x2 x3 x4 : Int} (h : Five S q w x0 x1 x2 x3 x4) (hg : w.grownBy w' (some S)) : Five S q w' x0 x1 x2 x3 x4 := ⟨h.ne, (hg.block q h.lt (by simpa using h.ne)).trans h.blk⟩
theorem Five.alloc {S q : Nat} {w : World} {x0 x1 x2 x3 x4 : Int} (h : Five S q w x0 x1 x2 x3 x4) (o : Obj) : Five S q (w.alloc o) x0 x1 x2 x3 x4 := ⟨h.ne, (((Below.refl w.heap.size w).alloc (Nat.le_refl _) o).block q h.lt).trans h.blk⟩
theorem five_new {S : Nat} {w : World} {x0 x1 x2 x3 x4 : Int} (hS : S < w.heap.size) : Five S w.heap.size (w.alloc (.cells #[.int .i64 x0, .int .i64 x1, .int .i64 x2, .int .i64 x3, .int .i64 x4] 24)) x0 x1 x2 x3 x4 := ⟨by omega, heap_alloc_new w _⟩
theorem Five.cells {S q : Nat} {w : World} {x0 x1 x2 x3 x4 : Int} (h : Five S q w x0 x1 x2 x3 x4) : (∀ j, w.cell? ⟨q, j, none⟩ = (#[.int .i64 x0, .int .i64 x1, .int .i64 x2, .int .i64 x3, .int .i64 x4] : Array Value)[j]?) ∧ ∀ j, w.frozen? ⟨q, j, none⟩ = false :=
  ⟨fun j => Lib.cell_of_heap h.blk j, fun j => Lib.frozen_of_heap h.blk j⟩
theorem Five.other {S q : Nat} {w : World} {x0 x1 x2 x3 x4 : Int} (h : Five S q w x0 x1 x2 x3 x4) {b j : Nat} (hb : q ≠ b) (v : Value) : Five S q (w.setCell ⟨b, j, none⟩ v) x0 x1 x2 x3 x4 := ⟨h.ne, (heap_setCell_other _ _ _ _ hb).trans h.blk⟩
theorem Src.other {w0 : World} {a : Option Addr} {len cap : Nat} {zs : List Int} {w : World} {S : Nat} (h : Src w0 a len cap zs w S) {b j : Nat} (hb : S ≠ b) (hl : w0.heap.size ≤ b) (v : Value) : Src w0 a len cap zs (w.setCell ⟨b, j, none⟩ v) S := by
  obtain ⟨hrow, hsm, hbel, hlo, k, m, z, hk, hm0, hm1, hz0, hz1, hobj⟩ := h
  exact ⟨hrow, hsm, hbel.setCell hl v, hlo, k, m, z, hk, hm0, hm1, hz0, hz1, (heap_setCell_other _ _ _ _ hb).trans hobj⟩
theorem grown_other {w w' : World} {S b j : Nat} (h : w.grownBy w' (some S)) (hb : w.heap.size ≤ b) (v : Value) : w.grownBy (w'.setCell ⟨b, j, none⟩ v) (some S) :=
  ⟨h.os, h.tape, h.output, by simpa using h.size, fun k hk hne => (heap_setCell_other _ _ _ _ (by simp; omega)).trans (h.block k hk hne)⟩
theorem Src.size {w0 : World} {a : Option Addr} {len cap : Nat} {zs : List Int} {w : World} {S : Nat} (h : Src w0 a len cap zs w S) : ∃ z : Int, 0 ≤ z ∧ z ≤ 12 ∧ w.cell? ⟨S, 3, none⟩ = some (.int .i64 z) := by
  obtain ⟨_, _, _, _, k, m, z, _, _, _, hz0, hz1, hobj⟩ := h
  exact ⟨z, hz0, hz1, by have := Lib.cell_of_heap hobj 3; simpa using this⟩

/-- What stands behind the drawing of the five numbers: their block, the result's block, the source. -/
def Drawn (w0 : World) (a : Option Addr) (len cap : Nat) (zs : List Int) (w : World) (S : Nat) (v : Value) (W : World) : Prop := ∃ (q : Nat) (x0 x1 x2 x3 x4 : Int), v = .pointer (some ⟨q, 0, none⟩) ∧ Five S q W x0 x1 x2 x3 x4 ∧ Five S w.heap.size W 0 0 0 0 0 ∧ w.heap.size < q ∧ Src w0 a len cap zs W S ∧ w.grownBy W (some S)
theorem drawn_new {w0 : World} {a : Option Addr} {len cap : Nat} {zs : List Int} {w W : World} {S : Nat} (x0 x1 x2 x3 x4 : Int) (hs : Src w0 a len cap zs W S) (hR : Five S w.heap.size W 0 0 0 0 0) (hg : w.grownBy W (some S)) : Drawn w0 a len cap zs w S (.pointer (some ⟨W.heap.size, 0, none⟩)) (W.alloc (.cells #[.int .i64 x0, .int .i64 x1, .int .i64 x2, .int .i64 x3, .int .i64 x4] 24)) :=
  ⟨W.heap.size, x0, x1, x2, x3, x4, rfl, five_new hs.lt, hR.alloc _, hR.lt, hs.alloc _, grown_trans hg (World.grownBy_alloc W _ _)⟩
theorem Five.set {S q : Nat} {w : World} {y0 y1 y2 y3 y4 : Int} (h : Five S q w y0 y1 y2 y3 y4) (x0 x1 x2 x3 x4 : Int) : Five S q (((((w.setCell ⟨q, 0, none⟩ (.int .i64 x0)).setCell ⟨q, 1, none⟩ (.int .i64 x1)).setCell ⟨q, 2, none⟩ (.int .i64 x2)).setCell ⟨q, 3, none⟩ (.int .i64 x3)).setCell ⟨q, 4, none⟩ (.int .i64 x4)) x0 x1 x2 x3 x4 :=
  ⟨h.ne, by have := heap_setCell (heap_setCell (heap_setCell (heap_setCell (heap_setCell h.blk 0 (.int .i64 x0)) 1 (.int .i64 x1)) 2 (.int .i64 x2)) 3 (.int .i64 x3)) 4 (.int .i64 x4); simpa using this⟩
theorem drawn_set {w0 : World} {a : Option Addr} {len cap : Nat} {zs : List Int} {w W : World} {S q : Nat} {y0 y1 y2 y3 y4 : Int} (x0 x1 x2 x3 x4 : Int) (hw : w0.heap.size ≤ w.heap.size) (hF : Five S q W y0 y1 y2 y3 y4) (hq : w.heap.size < q) (hs : Src w0 a len cap zs W S) (hR : Five S w.heap.size W 0 0 0 0 0) (hg : w.grownBy W (some S)) :
    Drawn w0 a len cap zs w S (.pointer (some ⟨q, 0, none⟩)) (((((W.setCell ⟨q, 0, none⟩ (.int .i64 x0)).setCell ⟨q, 1, none⟩ (.int .i64 x1)).setCell ⟨q, 2, none⟩ (.int .i64 x2)).setCell ⟨q, 3, none⟩ (.int .i64 x3)).setCell ⟨q, 4, none⟩ (.int .i64 x4)) := by
  have n0 : w.heap.size ≠ q := by omega
  have n1 : S ≠ q := fun e => hF.ne e.symm
  have n2 : w.heap.size ≤ q := by omega
  have n3 : w0.heap.size ≤ q := by omega
  exact ⟨q, x0, x1, x2, x3, x4, rfl, hF.set x0 x1 x2 x3 x4, ((((hR.other n0 _).other n0 _).other n0 _).other n0 _).other n0 _, hq, ((((hs.other n1 n3 _).other n1 n3 _).other n1 n3 _).other n1 n3 _).other n1 n3 _, grown_other (grown_other (grown_other (grown_other (grown_other hg n2 _) n2 _) n2 _) n2 _) n2 _⟩
/-- A new block of five numbers behind a draw. -/
structure Late (w : World) (S q : Nat) (W : World) : Prop where
  five : Five S q W 0 0 0 0 0
  lo : w.heap.size < q
theorem late_new {w W W' : World} {S : Nat} (hg : (W.alloc (.cells #[.int .i64 0, .int .i64 0, .int .i64 0, .int .i64 0, .int .i64 0] 24)).grownBy W' (some S)) (hS : S < W.heap.size) (hR : w.heap.size < W.heap.size) : Late w S W.heap.size W' := ⟨(five_new hS).grown hg, hR⟩
theorem late_drew {w W W' : World} {S : Nat} (hg : (W.alloc (.cells #[.int .i64 0, .int .i64 0, .int .i64 0, .int .i64 0, .int .i64 0] 24)).drew.grownBy W' (some S)) (hS : S < W.heap.size) (hR : w.heap.size < W.heap.size) : Late w S W.heap.size W' := ⟨(five_new hS).grown ⟨hg.os, hg.tape, hg.output, hg.size, hg.block⟩, hR⟩
theorem Late.grown {w W W' : World} {S q : Nat} (h : Late w S q W) (hg : W.grownBy W' (some S)) : Late w S q W' := ⟨h.five.grown hg, h.lo⟩
theorem Late.cells {w W : World} {S q : Nat} (h : Late w S q W) : W.cell? ⟨q, 0, none⟩ = some (.int .i64 0) ∧ W.cell? ⟨q, 1, none⟩ = some (.int .i64 0) ∧ W.cell? ⟨q, 2, none⟩ = some (.int .i64 0) ∧ W.cell? ⟨q, 3, none⟩ = some (.int .i64 0) ∧ W.cell? ⟨q, 4, none⟩ = some (.int .i64 0) ∧ (∀ j, W.frozen? ⟨q, j, none⟩ = false) ∧ q ≠ S :=
  ⟨h.five.cells.1 0, h.five.cells.1 1, h.five.cells.1 2, h.five.cells.1 3, h.five.cells.1 4, h.five.cells.2, h.five.ne⟩
/-- The running facts of the draws: the source, the result's block, what is turned. -/
structure Run (w0 : World) (a : Option Addr) (len cap : Nat) (zs : List Int) (w : World) (S : Nat) (W : World) : Prop where
  src : Src w0 a len cap zs W S
  res : Five S w.heap.size W 0 0 0 0 0
  grown : w.grownBy W (some S)
theorem Run.next {w0 : World} {a : Option Addr} {len cap : Nat} {zs : List Int} {w W W' : World} {S : Nat} (h : Run w0 a len cap zs w S W) (hs : Src w0 a len cap zs W' S) (hg : W.grownBy W' (some S)) : Run w0 a len cap zs w S W' := ⟨hs, h.res.grown hg, grown_trans h.grown hg⟩
theorem Run.over {w0 : World} {a : Option Addr} {len cap : Nat} {zs : List Int} {w W W' : World} {S : Nat} {o : Obj} (h : Run w0 a len cap zs w S W) (hs : Src w0 a len cap zs W' S) (hg : (W.alloc o).grownBy W' (some S)) : Run w0 a len cap zs w S W' := ⟨hs, (h.res.alloc _).grown hg, grown_trans h.grown (grown_over hg)⟩
theorem Run.overd {w0 : World} {a : Option Addr} {len cap : Nat} {zs : List Int} {w W W' : World} {S : Nat} {o : Obj} (h : Run w0 a len cap zs w S W) (hs : Src w0 a len cap zs W' S) (hg : (W.alloc o).drew.grownBy W' (some S)) : Run w0 a len cap zs w S W' := h.over (o := o) hs ⟨hg.os, hg.tape, hg.output, hg.size, hg.block⟩

/-- The loan's block, the result's, the source, while the rest is drawn. -/
structure Mid (w0 : World) (a : Option Addr) (len cap : Nat) (zs : List Int) (w : World) (S q : Nat) (W : World) : Prop where
  five : ∃ x0 x1 x2 x3 x4, Five S q W x0 x1 x2 x3 x4
  res : Five S w.heap.size W 0 0 0 0 0
  lo : w.heap.size < q
  src : Src w0 a len cap zs W S
  grown : w.grownBy W (some S)
  low : w0.heap.size ≤ w.heap.size
theorem Mid.next {w0 : World} {a : Option Addr} {len cap : Nat} {zs : List Int} {w W W' : World} {S q : Nat} (h : Mid w0 a len cap zs w S q W) (hs : Src w0 a len cap zs W' S) (hg : W.grownBy W' (some S)) : Mid w0 a len cap zs w S q W' := by
  obtain ⟨⟨x0, x1, x2, x3, x4, hf⟩, hr, hl, _, hgr, hw⟩ := h
  exact ⟨⟨x0, x1, x2, x3, x4, hf.grown hg⟩, hr.grown hg, hl, hs, grown_trans hgr hg, hw⟩
theorem Mid.alloc {w0 : World} {a : Option Addr} {len cap : Nat} {zs : List Int} {w W : World} {S q : Nat} (h : Mid w0 a len cap zs w S q W) (o : Obj) : Mid w0 a len cap zs w S q (W.alloc o) := by
  obtain ⟨⟨x0, x1, x2, x3, x4, hf⟩, hr, hl, hs, hgr, hw⟩ := h
  exact ⟨⟨x0, x1, x2, x3, x4, hf.alloc o⟩, hr.alloc o, hl, hs.alloc o, grown_trans hgr (World.grownBy_alloc W _ _), hw⟩
theorem Five.set1 {S q : Nat} {W : World} {x0 x1 x2 x3 x4 : Int} (h : Five S q W x0 x1 x2 x3 x4) (i : Nat) (hi : i < 5) (x : Int) : ∃ y0 y1 y2 y3 y4, Five S q (W.setCell ⟨q, i, none⟩ (.int .i64 x)) y0 y1 y2 y3 y4 := by
  have hb := heap_setCell h.blk i (.int .i64 x)
  rcases (by omega : i = 0 ∨ i = 1 ∨ i = 2 ∨ i = 3 ∨ i = 4) with rfl | rfl | rfl | rfl | rfl
  · exact ⟨x, x1, x2, x3, x4, h.ne, by simpa using hb⟩
  · exact ⟨x0, x, x2, x3, x4, h.ne, by simpa using hb⟩
  · exact ⟨x0, x1, x, x3, x4, h.ne, by simpa using hb⟩
  · exact ⟨x0, x1, x2, x, x4, h.ne, by simpa using hb⟩
  · exact ⟨x0, x1, x2, x3, x, h.ne, by simpa using hb⟩
theorem Mid.set1 {w0 : World} {a : Option Addr} {len cap : Nat} {zs : List Int} {w W : World} {S q : Nat} (h : Mid w0 a len cap zs w S q W) (i : Nat) (hi : i < 5) (x : Int) : Mid w0 a len cap zs w S q (W.setCell ⟨q, i, none⟩ (.int .i64 x)) := by
  obtain ⟨⟨x0, x1, x2, x3, x4, hf⟩, hr, hl, hs, hgr, hw⟩ := h
  have n0 : w.heap.size ≠ q := by omega
  have n1 : S ≠ q := fun e => hf.ne e.symm
  have hlo : w0.heap.size ≤ q := Nat.le_trans hw (Nat.le_of_lt hl)
  exact ⟨hf.set1 i hi x, hr.other n0 _, hl, hs.other n1 hlo _, grown_other hgr (Nat.le_of_lt hl) _, hw⟩
theorem Mid.all {w0 : World} {a : Option Addr} {len cap : Nat} {zs : List Int} {w W : World} {S q : Nat} (h : Mid w0 a len cap zs w S q W) : ∃ x0 x1 x2 x3 x4 : Int, W.cell? ⟨q, 0, none⟩ = some (.int .i64 x0) ∧ W.cell? ⟨q, 1, none⟩ = some (.int .i64 x1) ∧ W.cell? ⟨q, 2, none⟩ = some (.int .i64 x2) ∧ W.cell? ⟨q, 3, none⟩ = some (.int .i64 x3) ∧ W.cell? ⟨q, 4, none⟩ = some (.int .i64 x4) ∧
    W.cell? ⟨w.heap.size, 0, none⟩ = some (.int .i64 0) ∧ W.cell? ⟨w.heap.size, 1, none⟩ = some (.int .i64 0) ∧ W.cell? ⟨w.heap.size, 2, none⟩ = some (.int .i64 0) ∧ W.cell? ⟨w.heap.size, 3, none⟩ = some (.int .i64 0) ∧ W.cell? ⟨w.heap.size, 4, none⟩ = some (.int .i64 0) ∧ ∀ j, W.frozen? ⟨w.heap.size, j, none⟩ = false := by
  obtain ⟨⟨x0, x1, x2, x3, x4, hf⟩, hr, _⟩ := h
  have c := hf.cells.1
  have d := hr.cells.1
  exact ⟨x0, x1, x2, x3, x4, c 0, c 1, c 2, c 3, c 4, d 0, d 1, d 2, d 3, d 4, hr.cells.2⟩
theorem Mid.fr {w0 : World} {a : Option Addr} {len cap : Nat} {zs : List Int} {w W : World} {S q : Nat} (h : Mid w0 a len cap zs w S q W) : ∀ j, W.frozen? ⟨q, j, none⟩ = false := by
  obtain ⟨⟨x0, x1, x2, x3, x4, hf⟩, _⟩ := h
  exact hf.cells.2
theorem grown_res {w W : World} {S : Nat} {v0 v1 v2 v3 v4 : Value} (h : w.grownBy W (some S)) : w.grownBy (((((W.setCell ⟨w.heap.size, 0, none⟩ v0).setCell ⟨w.heap.size, 1, none⟩ v1).setCell ⟨w.heap.size, 2, none⟩ v2).setCell ⟨w.heap.size, 3, none⟩ v3).setCell ⟨w.heap.size, 4, none⟩ v4) (some S) :=
  have s := Nat.le_refl w.heap.size
  grown_other (grown_other (grown_other (grown_other (grown_other h s _) s _) s _) s _) s _
theorem six_at {W W' : World} {S : Nat} {a0 a1 a2 a3 a4 a5 : Int} {t : TypeId} (hg : (W.alloc (.cells #[.int .i64 a0, .int .i64 a1, .int .i64 a2, .int .i64 a3, .int .i64 a4, .int .i64 a5] t)).grownBy W' (some S)) (hS : S < W.heap.size) (p : Nat) (hp : p < 6) : ∃ x : Int, W'.cell? ⟨W.heap.size, p, none⟩ = some (.int .i64 x) := by
  have h : W'.cell? ⟨W.heap.size, p, none⟩ = (#[.int .i64 a0, .int .i64 a1, .int .i64 a2, .int .i64 a3, .int .i64 a4, .int .i64 a5] : Array Value)[p]? :=
    (World.cell?_of_block (a := ⟨W.heap.size, p, none⟩) (hg.block W.heap.size (by simp) (by simp; omega))).trans (World.cell?_alloc_new _ _ _ _)
  rw [h]
  rcases (by omega : p = 0 ∨ p = 1 ∨ p = 2 ∨ p = 3 ∨ p = 4 ∨ p = 5) with rfl | rfl | rfl | rfl | rfl | rfl
  · exact ⟨a0, rfl⟩
  · exact ⟨a1, rfl⟩
  · exact ⟨a2, rfl⟩
  · exact ⟨a3, rfl⟩
  · exact ⟨a4, rfl⟩
  · exact ⟨a5, rfl⟩
theorem five_at {W W' : World} {S : Nat} {a0 a1 a2 a3 a4 : Int} {t : TypeId} (hg : (W.alloc (.cells #[.int .i64 a0, .int .i64 a1, .int .i64 a2, .int .i64 a3, .int .i64 a4] t)).grownBy W' (some S)) (hS : S < W.heap.size) (p : Nat) (hp : p < 5) : ∃ x : Int, W'.cell? ⟨W.heap.size, p, none⟩ = some (.int .i64 x) := by
  have h : W'.cell? ⟨W.heap.size, p, none⟩ = (#[.int .i64 a0, .int .i64 a1, .int .i64 a2, .int .i64 a3, .int .i64 a4] : Array Value)[p]? :=
    (World.cell?_of_block (a := ⟨W.heap.size, p, none⟩) (hg.block W.heap.size (by simp) (by simp; omega))).trans (World.cell?_alloc_new _ _ _ _)
  rw [h]
  rcases (by omega : p = 0 ∨ p = 1 ∨ p = 2 ∨ p = 3 ∨ p = 4) with rfl | rfl | rfl | rfl | rfl
  · exact ⟨a0, rfl⟩
  · exact ⟨a1, rfl⟩
  · exact ⟨a2, rfl⟩
  · exact ⟨a3, rfl⟩
  · exact ⟨a4, rfl⟩

set_option maxRecDepth 100000 in
set_option maxHeartbeats 8000000 in
theorem draw_loan {w0 : World} {a : Option Addr} {len cap : Nat} {zs : List Int} {w : World} {S : Nat} (hS : Src w0 a len cap zs w S) (hw : w0.heap.size ≤ w.heap.size) :
    Calls Tryd.prog 42 #[.pointer (some ⟨S, 0, none⟩)] w fun e w' => ∃ x0 x1 x2 x3 x4 : Int, e = .returned (.agg #[.int .i64 x0, .int .i64 x1, .int .i64 x2, .int .i64 x3, .int .i64 x4]) ∧ w.grownBy w' (some S) := by
  obtain ⟨z, z0, z1, hz⟩ := hS.size
  have hlt := hS.lt
  obtain ⟨W0, hW0⟩ : ∃ W0, W0 = w.alloc (.cells #[.int .i64 0, .int .i64 0, .int .i64 0, .int .i64 0, .int .i64 0] 24) := ⟨_, rfl⟩
  have hs0 : Src w0 a len cap zs W0.drew S := by rw [hW0]; exact (hS.alloc _).drew
  have hs1 : Src w0 a len cap zs W0 S := by rw [hW0]; exact hS.alloc _
  have hz0 : W0.cell? ⟨S, 3, none⟩ = some (.int .i64 z) := by rw [hW0]; exact (World.cell?_alloc_past _ _ _ hlt).trans hz
  have HU0 : Hid (Run w0 a len cap zs w S W0.drew) := by
    rw [Hid, hW0]; exact ⟨(hS.alloc _).drew, (five_new hlt).drew, grown_drew (World.grownBy_alloc w _ _)⟩
  have HU1 : Hid (Run w0 a len cap zs w S W0) := by
    rw [Hid, hW0]; exact ⟨hS.alloc _, five_new hlt, World.grownBy_alloc w _ _⟩
  have HW : Hid (w0.heap.size ≤ w.heap.size) := hw
  have hwz : IntKind.i64.wrap (1 + z) = 1 + z := IntWalk.i64_in _ (by omega)
  clear hS hz hw
  go_enter Tryd.func42, Tryd.ntmps42
  go_wp2_with fail
  rw [← hW0]
  clear hW0
  go_upto_region 1 with fail
  go_cut [3] (fun v W => Hid (Drawn w0 a len cap zs w S v W))
  case first =>
    go_region_held3 (fun W => W.cell? ⟨S, 3, none⟩ = some (.int .i64 z)) (go_keep) (first | (go_at_call 61; refine (draw_kz (by first | assumption | (with_reducible exact Src.drew (Src.alloc hs1 _)) | exact Src.alloc (by assumption) _) (by first | assumption | go_keep) _ (by omega) (by omega)).mono ?_; rintro e w' ⟨r, rfl, r0, r1, hs', hz', hg'⟩; (first | (have HU : Hid (Run w0 a len cap zs w S w') := Run.next (Hid.out (by assumption)) hs' hg') | (have HU : Hid (Run w0 a len cap zs w S w') := Run.over (Hid.out (by assumption)) hs' hg') | (have HU : Hid (Run w0 a len cap zs w S w') := Run.overd (W := W0) (Hid.out (by assumption)) hs' hg')); (first | (have hN := late_new (w := w) hg' (Src.lt (by assumption)) (Five.lt (Run.res (Hid.out (by assumption)))); obtain ⟨k0, k1, k2, k3, k4, kf, kn⟩ := hN.cells) | (have hN := late_drew (w := w) (W := W0) hg' (Src.lt (by assumption)) (Five.lt (Run.res (Hid.out (by assumption)))); obtain ⟨k0, k1, k2, k3, k4, kf, kn⟩ := hN.cells) | (have hN := Late.grown (w := w) (by assumption) hg'; obtain ⟨k0, k1, k2, k3, k4, kf, kn⟩ := hN.cells) | skip)))
    all_goals (go_wp2_with fail)
    all_goals go_meet
    all_goals first
      | exact drawn_new _ _ _ _ _ HU.out.src HU.out.res HU.out.grown
      | exact drawn_set _ _ _ _ _ HW.out hN.five hN.lo HU.out.src HU.out.res HU.out.grown
  case rest =>
  obtain ⟨q, y0, y1, y2, y3, y4, rfl, hF, hR, hq, hs, hg⟩ := hcut.out
  have M0 : Hid (Mid w0 a len cap zs w S q wc) := ⟨⟨y0, y1, y2, y3, y4, hF⟩, hR, hq, hs, hg, HW.out⟩
  clear hcut hF hR hq hs hg HU0 HU1 hs0 hs1 hz0 hwz
  go_wp2_with fail
  refine (draw_k M0.out.src 10 (by omega) (by omega)).mono ?_
  rintro e w1 ⟨r, rfl, hr, hs1, hg1⟩
  have M1 : Hid (Mid w0 a len cap zs w S q w1) := M0.out.next hs1 hg1
  clear hs1 hg1 M0
  by_cases e0 : r = 0
  · subst e0
    go_wp2_with fail
    refine (draw_k (M1.out.alloc _).src 6 (by omega) (by omega)).mono ?_
    rintro e w2 ⟨p, rfl, hp, hs2, hg2⟩
    have M2 := (M1.out.alloc _).next hs2 hg2
    obtain ⟨x, hx⟩ := six_at hg2 M1.out.src.lt p (by omega)
    clear hs2 hg2
    obtain ⟨x0, x1, x2, x3, x4, c0, c1, c2, c3, c4, _⟩ := M2.all
    have cf := M2.fr
    have hpp : p < 6 := by omega
    have M3 : Hid (Mid w0 a len cap zs w S q (w2.setCell ⟨q, 0, none⟩ (.int .i64 x))) := M2.set1 0 (by omega) x
    clear M2
    go_wp2_with fail
    refine (draw_one M3.out.src 20 (by omega) (by omega)).mono ?_
    rintro e wq ⟨bq, rfl, hsq, hgq⟩
    have M9 := M3.out.next hsq hgq
    clear hsq hgq
    cases bq
    · obtain ⟨x0, x1, x2, x3, x4, c0, c1, c2, c3, c4, r0, r1, r2, r3, r4, rf⟩ := M9.all
      have HM : Hid (Mid w0 a len cap zs w S q wq) := M9
      clear M9
      go_wp2_with fail
      refine bodyPost_ret (v := .agg #[.int .i64 x0, .int .i64 x1, .int .i64 x2, .int .i64 x3, .int .i64 x4]) ?_ rfl ⟨x0, x1, x2, x3, x4, rfl, ?_⟩
      · simp [results, Tryd.results42, go_sem, r0, r1, r2, r3, r4]
      · exact grown_res HM.out.grown
    · have HM : Hid (Mid w0 a len cap zs w S q wq) := M9
      clear M9
      go_wp2_with fail
      refine (draw_k HM.out.src 6 (by omega) (by omega)).mono ?_
      rintro e wp ⟨rp, rfl, hrp, hsp, hgp⟩
      have MA := HM.out.next hsp hgp
      clear hsp hgp HM
      obtain ⟨x0, x1, x2, x3, x4, c0, c1, c2, c3, c4, r0, r1, r2, r3, r4, rf⟩ := MA.all
      have cf := MA.fr
      have hne : q ≠ w.heap.size := by have := MA.lo; omega
      have HM : Hid (Mid w0 a len cap zs w S q (wp.setCell ⟨q, 2, none⟩ (.int .i64 ((rp : Int) - 1)))) := MA.set1 2 (by omega) _
      clear MA
      go_wp2_with fail
      refine bodyPost_ret (v := .agg #[.int .i64 x0, .int .i64 x1, .int .i64 ((rp : Int) - 1), .int .i64 x3, .int .i64 x4]) ?_ rfl ⟨x0, x1, (rp : Int) - 1, x3, x4, rfl, ?_⟩
      · simp [results, Tryd.results42, go_sem, r0, r1, r2, r3, r4]
      · exact grown_res HM.out.grown
  by_cases e1 : r = 1
  · subst e1
    go_wp2_with fail
    refine (draw_k (M1.out.alloc _).src 5 (by omega) (by omega)).mono ?_
    rintro e w2 ⟨p, rfl, hp, hs2, hg2⟩
    have M2 := (M1.out.alloc _).next hs2 hg2
    obtain ⟨x, hx⟩ := five_at hg2 M1.out.src.lt p (by omega)
    clear hs2 hg2
    obtain ⟨x0, x1, x2, x3, x4, c0, c1, c2, c3, c4, _⟩ := M2.all
    have cf := M2.fr
    have hpp : p < 5 := by omega
    have M3 : Hid (Mid w0 a len cap zs w S q (w2.setCell ⟨q, 1, none⟩ (.int .i64 x))) := M2.set1 1 (by omega) x
    clear M2
    go_wp2_with fail
    refine (draw_one M3.out.src 20 (by omega) (by omega)).mono ?_
    rintro e wq ⟨bq, rfl, hsq, hgq⟩
    have M9 := M3.out.next hsq hgq
    clear hsq hgq
    cases bq
    · obtain ⟨x0, x1, x2, x3, x4, c0, c1, c2, c3, c4, r0, r1, r2, r3, r4, rf⟩ := M9.all
      have HM : Hid (Mid w0 a len cap zs w S q wq) := M9
      clear M9
      go_wp2_with fail
      refine bodyPost_ret (v := .agg #[.int .i64 x0, .int .i64 x1, .int .i64 x2, .int .i64 x3, .int .i64 x4]) ?_ rfl ⟨x0, x1, x2, x3, x4, rfl, ?_⟩
      · simp [results, Tryd.results42, go_sem, r0, r1, r2, r3, r4]
      · exact grown_res HM.out.grown
    · have HM : Hid (Mid w0 a len cap zs w S q wq) := M9
      clear M9
      go_wp2_with fail
      refine (draw_k HM.out.src 6 (by omega) (by omega)).mono ?_
      rintro e wp ⟨rp, rfl, hrp, hsp, hgp⟩
      have MA := HM.out.next hsp hgp
      clear hsp hgp HM
      obtain ⟨x0, x1, x2, x3, x4, c0, c1, c2, c3, c4, r0, r1, r2, r3, r4, rf⟩ := MA.all
      have cf := MA.fr
      have hne : q ≠ w.heap.size := by have := MA.lo; omega
      have HM : Hid (Mid w0 a len cap zs w S q (wp.setCell ⟨q, 2, none⟩ (.int .i64 ((rp : Int) - 1)))) := MA.set1 2 (by omega) _
      clear MA
      go_wp2_with fail
      refine bodyPost_ret (v := .agg #[.int .i64 x0, .int .i64 x1, .int .i64 ((rp : Int) - 1), .int .i64 x3, .int .i64 x4]) ?_ rfl ⟨x0, x1, (rp : Int) - 1, x3, x4, rfl, ?_⟩
      · simp [results, Tryd.results42, go_sem, r0, r1, r2, r3, r4]
      · exact grown_res HM.out.grown
  by_cases e2 : r = 2
  · subst e2
    go_wp2_with fail
    refine (draw_edge M1.out.src).mono ?_
    rintro e w5 ⟨y, rfl, hy0, hy1, hs5, hg5⟩
    have M5 : Hid (Mid w0 a len cap zs w S q w5) := M1.out.next hs5 hg5
    clear hs5 hg5
    go_wp2_with fail
    refine (draw_k (M5.out.alloc _).src 6 (by omega) (by omega)).mono ?_
    rintro e w2 ⟨p, rfl, hp, hs2, hg2⟩
    have M2 := (M5.out.alloc _).next hs2 hg2
    obtain ⟨x, hx⟩ := six_at hg2 M5.out.src.lt p (by omega)
    clear hs2 hg2
    obtain ⟨x0, x1, x2, x3, x4, c0, c1, c2, c3, c4, _⟩ := M2.all
    have cf := M2.fr
    have hpp : p < 6 := by omega
    have M3 : Hid (Mid w0 a len cap zs w S q (w2.setCell ⟨q, 4, none⟩ (.int .i64 x))) := M2.set1 4 (by omega) x
    clear M2
    go_wp2_with fail
    refine (draw_one M3.out.src 20 (by omega) (by omega)).mono ?_
    rintro e wq ⟨bq, rfl, hsq, hgq⟩
    have M9 := M3.out.next hsq hgq
    clear hsq hgq
    cases bq
    · obtain ⟨x0, x1, x2, x3, x4, c0, c1, c2, c3, c4, r0, r1, r2, r3, r4, rf⟩ := M9.all
      have HM : Hid (Mid w0 a len cap zs w S q wq) := M9
      clear M9
      go_wp2_with fail
      refine bodyPost_ret (v := .agg #[.int .i64 x0, .int .i64 x1, .int .i64 x2, .int .i64 x3, .int .i64 x4]) ?_ rfl ⟨x0, x1, x2, x3, x4, rfl, ?_⟩
      · simp [results, Tryd.results42, go_sem, r0, r1, r2, r3, r4]
      · exact grown_res HM.out.grown
    · have HM : Hid (Mid w0 a len cap zs w S q wq) := M9
      clear M9
      go_wp2_with fail
      refine (draw_k HM.out.src 6 (by omega) (by omega)).mono ?_
      rintro e wp ⟨rp, rfl, hrp, hsp, hgp⟩
      have MA := HM.out.next hsp hgp
      clear hsp hgp HM
      obtain ⟨x0, x1, x2, x3, x4, c0, c1, c2, c3, c4, r0, r1, r2, r3, r4, rf⟩ := MA.all
      have cf := MA.fr
      have hne : q ≠ w.heap.size := by have := MA.lo; omega
      have HM : Hid (Mid w0 a len cap zs w S q (wp.setCell ⟨q, 2, none⟩ (.int .i64 ((rp : Int) - 1)))) := MA.set1 2 (by omega) _
      clear MA
      go_wp2_with fail
      refine bodyPost_ret (v := .agg #[.int .i64 x0, .int .i64 x1, .int .i64 ((rp : Int) - 1), .int .i64 x3, .int .i64 x4]) ?_ rfl ⟨x0, x1, (rp : Int) - 1, x3, x4, rfl, ?_⟩
      · simp [results, Tryd.results42, go_sem, r0, r1, r2, r3, r4]
      · exact grown_res HM.out.grown
  by_cases e3 : r = 3
  · subst e3
    go_wp2_with fail
    refine (draw_day M1.out.src).mono ?_
    rintro e w2 ⟨x, rfl, hx0, hx1, hs2, hg2⟩
    have M2 := M1.out.next hs2 hg2
    clear hs2 hg2
    obtain ⟨x0, x1, x2, x3, x4, c0, c1, c2, c3, c4, _⟩ := M2.all
    have cf := M2.fr
    have M3 : Hid (Mid w0 a len cap zs w S q (w2.setCell ⟨q, 3, none⟩ (.int .i64 x))) := M2.set1 3 (by omega) x
    clear M2
    go_wp2_with fail
    refine (draw_one M3.out.src 20 (by omega) (by omega)).mono ?_
    rintro e wq ⟨bq, rfl, hsq, hgq⟩
    have M9 := M3.out.next hsq hgq
    clear hsq hgq
    cases bq
    · obtain ⟨x0, x1, x2, x3, x4, c0, c1, c2, c3, c4, r0, r1, r2, r3, r4, rf⟩ := M9.all
      have HM : Hid (Mid w0 a len cap zs w S q wq) := M9
      clear M9
      go_wp2_with fail
      refine bodyPost_ret (v := .agg #[.int .i64 x0, .int .i64 x1, .int .i64 x2, .int .i64 x3, .int .i64 x4]) ?_ rfl ⟨x0, x1, x2, x3, x4, rfl, ?_⟩
      · simp [results, Tryd.results42, go_sem, r0, r1, r2, r3, r4]
      · exact grown_res HM.out.grown
    · have HM : Hid (Mid w0 a len cap zs w S q wq) := M9
      clear M9
      go_wp2_with fail
      refine (draw_k HM.out.src 6 (by omega) (by omega)).mono ?_
      rintro e wp ⟨rp, rfl, hrp, hsp, hgp⟩
      have MA := HM.out.next hsp hgp
      clear hsp hgp HM
      obtain ⟨x0, x1, x2, x3, x4, c0, c1, c2, c3, c4, r0, r1, r2, r3, r4, rf⟩ := MA.all
      have cf := MA.fr
      have hne : q ≠ w.heap.size := by have := MA.lo; omega
      have HM : Hid (Mid w0 a len cap zs w S q (wp.setCell ⟨q, 2, none⟩ (.int .i64 ((rp : Int) - 1)))) := MA.set1 2 (by omega) _
      clear MA
      go_wp2_with fail
      refine bodyPost_ret (v := .agg #[.int .i64 x0, .int .i64 x1, .int .i64 ((rp : Int) - 1), .int .i64 x3, .int .i64 x4]) ?_ rfl ⟨x0, x1, (rp : Int) - 1, x3, x4, rfl, ?_⟩
      · simp [results, Tryd.results42, go_sem, r0, r1, r2, r3, r4]
      · exact grown_res HM.out.grown
  have t0 : ((r : Int) == 0) = false := beq_eq_false_iff_ne.2 (by omega)
  have t1 : ((r : Int) == 1) = false := beq_eq_false_iff_ne.2 (by omega)
  have t2 : ((r : Int) == 2) = false := beq_eq_false_iff_ne.2 (by omega)
  have t3 : ((r : Int) == 3) = false := beq_eq_false_iff_ne.2 (by omega)
  go_wp2_with fail
  refine (draw_one M1.out.src 20 (by omega) (by omega)).mono ?_
  rintro e wq ⟨bq, rfl, hsq, hgq⟩
  have M9 := M1.out.next hsq hgq
  clear hsq hgq
  cases bq
  · obtain ⟨x0, x1, x2, x3, x4, c0, c1, c2, c3, c4, r0, r1, r2, r3, r4, rf⟩ := M9.all
    have HM : Hid (Mid w0 a len cap zs w S q wq) := M9
    clear M9
    go_wp2_with fail
    refine bodyPost_ret (v := .agg #[.int .i64 x0, .int .i64 x1, .int .i64 x2, .int .i64 x3, .int .i64 x4]) ?_ rfl ⟨x0, x1, x2, x3, x4, rfl, ?_⟩
    · simp [results, Tryd.results42, go_sem, r0, r1, r2, r3, r4]
    · exact grown_res HM.out.grown
  · have HM : Hid (Mid w0 a len cap zs w S q wq) := M9
    clear M9
    go_wp2_with fail
    refine (draw_k HM.out.src 6 (by omega) (by omega)).mono ?_
    rintro e wp ⟨rp, rfl, hrp, hsp, hgp⟩
    have MA := HM.out.next hsp hgp
    clear hsp hgp HM
    obtain ⟨x0, x1, x2, x3, x4, c0, c1, c2, c3, c4, r0, r1, r2, r3, r4, rf⟩ := MA.all
    have cf := MA.fr
    have hne : q ≠ w.heap.size := by have := MA.lo; omega
    have HM : Hid (Mid w0 a len cap zs w S q (wp.setCell ⟨q, 2, none⟩ (.int .i64 ((rp : Int) - 1)))) := MA.set1 2 (by omega) _
    clear MA
    go_wp2_with fail
    refine bodyPost_ret (v := .agg #[.int .i64 x0, .int .i64 x1, .int .i64 ((rp : Int) - 1), .int .i64 x3, .int .i64 x4]) ?_ rfl ⟨x0, x1, (rp : Int) - 1, x3, x4, rfl, ?_⟩
    · simp [results, Tryd.results42, go_sem, r0, r1, r2, r3, r4]
    · exact grown_res HM.out.grown
set_option maxRecDepth 100000 in
set_option maxHeartbeats 4000000 in
theorem draw_plan {w0 : World} {a : Option Addr} {len cap : Nat} {zs : List Int} (hrow : IsRow .u8 w0 a len cap zs) (hsm : len ≤ 1048576) (w : World) (hb0 : Below w0.heap.size w0 w) :
    Calls Tryd.prog 15 #[.slice a len cap] w fun e w' => ∃ x0 x1 x2 x3 x4 : Int, e = .returned (.agg #[.int .i64 x0, .int .i64 x1, .int .i64 x2, .int .i64 x3, .int .i64 x4]) ∧ Below w.heap.size w w' := by
  have HB0 : Hid (Below w0.heap.size w0 (w.alloc (.cells #[.int .i64 0, .int .i64 0, .int .i64 0, .int .i64 0, .int .i64 0] 24))) := hb0.alloc hb0.size _
  have HW : Hid (w0.heap.size ≤ w.heap.size) := hb0.size
  clear hb0
  go_enter Tryd.func15, Tryd.ntmps15
  go_wp2_with fail
  refine (draw_source hrow hsm _ HB0.out).mono ?_
  rintro e w1 ⟨S, rfl, hSlo, hs1, hg1⟩
  have HS1 : Hid (Src w0 a len cap zs w1 S) := hs1
  have HG1 : Hid ((w.alloc (.cells #[.int .i64 0, .int .i64 0, .int .i64 0, .int .i64 0, .int .i64 0] 24)).grownBy w1 none) := hg1
  have hS : w.heap.size < S := by simp at hSlo; omega
  clear hs1 hg1 hSlo
  go_wp2_with fail
  refine (draw_loan HS1.out (Nat.le_trans HW.out (by have := HG1.out.size; simp at this; omega))).mono ?_
  rintro e w2 ⟨x0, x1, x2, x3, x4, rfl, hg2⟩
  have hblk : w2.heap[w.heap.size]? = some (.cells #[.int .i64 0, .int .i64 0, .int .i64 0, .int .i64 0, .int .i64 0] 24 (0, 0)) := by
    rw [hg2.block w.heap.size (by have := HG1.out.size; simp at this; omega) (by simp; omega), HG1.out.block w.heap.size (by simp) (by simp)]
    exact heap_alloc_new w _
  have c0 := Lib.cell_of_heap hblk 0
  have c1 := Lib.cell_of_heap hblk 1
  have c2 := Lib.cell_of_heap hblk 2
  have c3 := Lib.cell_of_heap hblk 3
  have c4 := Lib.cell_of_heap hblk 4
  have cf := fun j => Lib.frozen_of_heap hblk j
  simp at c0 c1 c2 c3 c4
  have HB2 : Hid (Below w.heap.size w w2) := (((Below.refl w.heap.size w).alloc (Nat.le_refl _) _).grown HG1.out (by simp) (fun k hk => by cases hk)).grown hg2 (by have := HG1.out.size; simp at this; omega) (fun k hk => by cases hk; omega)
  clear hblk hg2 HG1 HS1 HB0
  go_wp2_with fail
  refine bodyPost_ret (v := .agg #[.int .i64 x0, .int .i64 x1, .int .i64 x2, .int .i64 x3, .int .i64 x4]) ?_ rfl ⟨x0, x1, x2, x3, x4, rfl, ?_⟩
  · simp [results, Tryd.results15, go_sem, c0, c1, c2, c3, c4]
  · have s := Nat.le_refl w.heap.size
    exact ((((HB2.out.setCell s _).setCell s _).setCell s _).setCell s _).setCell s _
set_option maxRecDepth 100000 in
set_option maxHeartbeats 4000000 in
theorem draw_instalment {w0 : World} {a : Option Addr} {len cap : Nat} {zs : List Int} (hrow : IsRow .u8 w0 a len cap zs) (hsm : len ≤ 1048576) (w : World) (hb0 : Below w0.heap.size w0 w) :
    Calls Tryd.prog 9 #[.slice a len cap] w fun e w' => ∃ x0 x1 x2 x3 x4 : Int, e = .returned (.agg #[.int .i64 x0, .int .i64 x1, .int .i64 x2, .int .i64 x3, .int .i64 x4]) ∧ Below w.heap.size w w' := by
  have HB0 : Hid (Below w0.heap.size w0 (w.alloc (.cells #[.int .i64 0, .int .i64 0, .int .i64 0, .int .i64 0, .int .i64 0] 24))) := hb0.alloc hb0.size _
  have HW : Hid (w0.heap.size ≤ w.heap.size) := hb0.size
  clear hb0
  go_enter Tryd.func9, Tryd.ntmps9
  go_wp2_with fail
  refine (draw_source hrow hsm _ HB0.out).mono ?_
  rintro e w1 ⟨S, rfl, hSlo, hs1, hg1⟩
  have HS1 : Hid (Src w0 a len cap zs w1 S) := hs1
  have HG1 : Hid ((w.alloc (.cells #[.int .i64 0, .int .i64 0, .int .i64 0, .int .i64 0, .int .i64 0] 24)).grownBy w1 none) := hg1
  have hS : w.heap.size < S := by simp at hSlo; omega
  clear hs1 hg1 hSlo
  go_wp2_with fail
  refine (draw_loan HS1.out (Nat.le_trans HW.out (by have := HG1.out.size; simp at this; omega))).mono ?_
  rintro e w2 ⟨x0, x1, x2, x3, x4, rfl, hg2⟩
  have hblk : w2.heap[w.heap.size]? = some (.cells #[.int .i64 0, .int .i64 0, .int .i64 0, .int .i64 0, .int .i64 0] 24 (0, 0)) := by
    rw [hg2.block w.heap.size (by have := HG1.out.size; simp at this; omega) (by simp; omega), HG1.out.block w.heap.size (by simp) (by simp)]
    exact heap_alloc_new w _
  have c0 := Lib.cell_of_heap hblk 0
  have c1 := Lib.cell_of_heap hblk 1
  have c2 := Lib.cell_of_heap hblk 2
  have c3 := Lib.cell_of_heap hblk 3
  have c4 := Lib.cell_of_heap hblk 4
  have cf := fun j => Lib.frozen_of_heap hblk j
  simp at c0 c1 c2 c3 c4
  have HB2 : Hid (Below w.heap.size w w2) := (((Below.refl w.heap.size w).alloc (Nat.le_refl _) _).grown HG1.out (by simp) (fun k hk => by cases hk)).grown hg2 (by have := HG1.out.size; simp at this; omega) (fun k hk => by cases hk; omega)
  clear hblk hg2 HG1 HS1 HB0
  go_wp2_with fail
  refine bodyPost_ret (v := .agg #[.int .i64 x0, .int .i64 x1, .int .i64 x2, .int .i64 x3, .int .i64 x4]) ?_ rfl ⟨x0, x1, x2, x3, x4, rfl, ?_⟩
  · simp [results, Tryd.results9, go_sem, c0, c1, c2, c3, c4]
  · have s := Nat.le_refl w.heap.size
    exact ((((HB2.out.setCell s _).setCell s _).setCell s _).setCell s _).setCell s _
end Go.Proofs.YtmeffdggpdojhaaDoor.Draw
