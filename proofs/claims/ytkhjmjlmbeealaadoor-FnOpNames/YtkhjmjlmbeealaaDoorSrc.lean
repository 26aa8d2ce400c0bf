/- What the drawing functions do: they draw some number in their bounds, and write to their own source alone. -/
import Derived.Test.YtkhjmjlmbeealaaDoorBase
import Derived.Lib.Builder
import Derived.OpenShut
namespace Go.Proofs.YtkhjmjlmbeealaaDoor.Draw
open Go.RowKit

/-- What is told of a slice of bytes that came in: nil, or a row of cells. -/
def IsRow (k : IntKind) (w : World) (a : Option Addr) (len cap : Nat) (zs : List Int) : Prop :=
  (a = none ∧ len = 0 ∧ cap = 0 ∧ zs = []) ∨
  ∃ x, a = some x ∧ len ≤ cap ∧ cap ≤ maxLen ∧ zs.length = cap ∧ (∀ i, i < zs.length → w.cell? (x.add i) = some (.int k (zs.getD i 0))) ∧ ∀ n ∈ zs, (Lit.int k n).wf = true

/-- A source in memory: its own block, over bytes that came in. -/
structure Src (w0 : World) (a : Option Addr) (len cap : Nat) (zs : List Int) (w : World) (S : Nat) : Prop where
  row : IsRow .u8 w0 a len cap zs
  small : len ≤ 1048576
  below : Below w0.heap.size w0 w
  lo : w0.heap.size ≤ S
  obj : ∃ (k : Nat) (m z : Int), k ≤ len ∧ 0 ≤ m ∧ m ≤ 18446744073709551615 ∧ 0 ≤ z ∧ z ≤ 12 ∧ w.heap[S]? = some (.cells #[.slice a len cap, .int .i64 k, .int .u64 m, .int .i64 z] 88 (0, 0))

theorem IsRow.byte {w0 w : World} {a : Option Addr} {len cap : Nat} {zs : List Int} (h : IsRow .u8 w0 a len cap zs) (hb : Below w0.heap.size w0 w) (k : Nat) (hk : k < len) :
    ∃ (b off : Nat) (v : Int), a = some ⟨b, off, none⟩ ∧ 0 ≤ v ∧ v ≤ 255 ∧ b < w0.heap.size ∧ len ≤ cap ∧ w.cell? ⟨b, off + k, none⟩ = some (.int .u8 v) := by
  rcases h with ⟨_, rfl, _⟩ | ⟨x, rfl, hl, hm, hz, hc, hw⟩
  · omega
  · obtain ⟨b, off, rfl, hj⟩ := ints_at hc (by omega)
    have hc' := hj k (by omega)
    have hlt : b < w0.heap.size := World.block_lt_of_cell? _ _ hc'
    have hv := hw (zs.getD k 0) (by rw [List.getD_eq_getElem?_getD, List.getElem?_eq_getElem (by omega)]; exact List.getElem_mem _)
    have hx : 0 ≤ zs.getD k 0 ∧ zs.getD k 0 ≤ 255 := by simpa [Lit.wf, IntKind.min, IntKind.max, IntKind.signed, IntKind.bits] using hv
    exact ⟨b, off, _, rfl, hx.1, hx.2, hlt, hl, (hb.cell hlt).trans hc'⟩

theorem heap_setCell {w : World} {S : Nat} {cs : Array Value} {t : TypeId} (h : w.heap[S]? = some (.cells cs t (0, 0))) (j : Nat) (v : Value) : (w.setCell ⟨S, j, none⟩ v).heap[S]? = some (.cells (cs.setIfInBounds j v) t (0, 0)) := by
  have hlt : S < w.heap.size := (Array.getElem?_eq_some_iff.1 h).1
  have hv : w.heap[S] = .cells cs t (0, 0) := (Array.getElem?_eq_some_iff.1 h).2
  unfold World.setCell
  rw [Array.getElem?_eq_getElem (by simpa using hlt), Array.getElem_modify]
  simp [hv]
theorem grown_setCell {w w' : World} {S : Nat} (h : w.grownBy w' (some S)) (j : Nat) (v : Value) : w.grownBy (w'.setCell ⟨S, j, none⟩ v) (some S) :=
  ⟨h.os, h.tape, h.output, by simpa using h.size, fun k hk hne => by
    rw [Below.heap_setCell _ _ _ _ (fun e => hne (by rw [e]))]
    exact h.block k hk hne⟩
theorem grown_drew {w w' : World} {row : Option Nat} (h : w.grownBy w' row) : w.grownBy w'.drew row := ⟨h.os, h.tape, h.output, h.size, h.block⟩
theorem grown_trans {w w' w'' : World} {row : Option Nat} (h : w.grownBy w' row) (h' : w'.grownBy w'' row) : w.grownBy w'' row :=
  ⟨h'.os.trans h.os, h'.tape.trans h.tape, h'.output.trans h.output, Nat.le_trans h.size h'.size, fun k hk hne => (h'.block k (Nat.lt_of_lt_of_le hk h.size) hne).trans (h.block k hk hne)⟩
theorem heap_drew (w : World) : w.drew.heap = w.heap := rfl

theorem bits_u64_bd (op : BinOp) (x y : Int) (h : op = .xor) : 0 ≤ bits op .u64 x y ∧ bits op .u64 x y ≤ 18446744073709551615 := by
  subst h
  have e : bits .xor .u64 x y = IntKind.u64.wrap ((BitVec.ofInt 64 x ^^^ BitVec.ofInt 64 y).toNat : Int) := rfl
  rw [e]
  have hw : ∀ n : Int, IntKind.u64.wrap n = n % 18446744073709551616 := fun n => by simp [IntKind.wrap, IntKind.bits, IntKind.signed]
  rw [hw]
  omega
theorem mixed (x y : Int) : ∃ m : Int, bits .xor .u64 x y = m ∧ 0 ≤ m ∧ m ≤ 18446744073709551615 := ⟨_, rfl, bits_u64_bd _ _ _ rfl⟩

theorem mod_bd (x most : Int) (h1 : 1 < most) (h2 : most ≤ 9223372036854775807) : wrap64 (x % most) = x % most ∧ 0 ≤ x % most ∧ x % most < most := by
  have a := Int.emod_nonneg x (show most ≠ 0 by omega)
  have b := Int.emod_lt_of_pos x (show 0 < most by omega)
  refine ⟨?_, a, b⟩
  unfold wrap64
  omega

set_option maxHeartbeats 4000000 in
/-- A number drawn below most. -/
theorem draw_n {w0 : World} {a : Option Addr} {len cap : Nat} {zs : List Int} {w : World} {S : Nat} (hS : Src w0 a len cap zs w S) (most : Int) (hmo : 1 < most) (hmo1 : most ≤ 9223372036854775807) :
    Calls Tryd.prog 35 #[.pointer (some ⟨S, 0, none⟩), .int .i64 most] w fun e w' => ∃ r : Int, e = .returned (.int .i64 r) ∧ 0 ≤ r ∧ r < most ∧ Src w0 a len cap zs w' S ∧ w.grownBy w' (some S) := by
  obtain ⟨hrow, hsm, hbel, hlo, k, m, z, hk, hm0, hm1, hz0, hz1, hobj⟩ := hS
  have h0 := Lib.cell_of_heap hobj 0
  have h1 := Lib.cell_of_heap hobj 1
  have h2 := Lib.cell_of_heap hobj 2
  have hf := Lib.frozen_of_heap hobj
  simp at h0 h1 h2
  obtain ⟨m1, e1, b1, c1⟩ := mixed m (IntKind.u64.wrap (m * 8192))
  obtain ⟨m2, e2, b2, c2⟩ := mixed m1 (m1 / 128)
  obtain ⟨m3, e3, b3, c3⟩ := mixed m2 (IntKind.u64.wrap (m2 * 131072))
  have fin : ∀ (k' : Nat) (w' : World), k' ≤ len → w.grownBy w' (some S) → w'.heap[S]? = some (.cells #[.slice a len cap, .int .i64 k', .int .u64 m3, .int .i64 z] 88 (0, 0)) → Src w0 a len cap zs w' S ∧ w.grownBy w' (some S) := fun k' w' hk' hg hh =>
    ⟨⟨hrow, hsm, hbel.grown hg hbel.size (fun j hj => by cases hj; exact hlo), hlo, k', m3, z, hk', b3, c3, hz0, hz1, hh⟩, hg⟩
  have Hfin : Hid (∀ (k' : Nat) (w' : World), k' ≤ len → w.grownBy w' (some S) → w'.heap[S]? = some (.cells #[.slice a len cap, .int .i64 k', .int .u64 m3, .int .i64 z] 88 (0, 0)) → Src w0 a len cap zs w' S ∧ w.grownBy w' (some S)) := fin
  clear fin
  by_cases hkl : k < len
  · obtain ⟨b, off, v, rfl, hv0, hv1, hbl, hlc, hcell⟩ := hrow.byte hbel k hkl
    have hd : decide (k < len) = true := by simpa using hkl
    have hh := heap_setCell (heap_setCell (heap_setCell (heap_setCell hobj 1 (.int .i64 ((k : Int) + 1))) 2 (.int .u64 m1)) 2 (.int .u64 m2)) 2 (.int .u64 m3)
    have h3 := Lib.cell_of_heap hh 2
    have h4 := Lib.cell_of_heap (heap_setCell (heap_setCell (heap_setCell hobj 1 (.int .i64 ((k : Int) + 1))) 2 (.int .u64 m1)) 2 (.int .u64 m2)) 2
    have h5 := Lib.cell_of_heap (heap_setCell (heap_setCell hobj 1 (.int .i64 ((k : Int) + 1))) 2 (.int .u64 m1)) 2
    simp at h3 h4 h5
    have hg := grown_setCell (grown_setCell (grown_setCell (grown_setCell (World.grownBy.refl w (some S)) 1 (.int .i64 ((k : Int) + 1))) 2 (.int .u64 m1)) 2 (.int .u64 m2)) 2 (.int .u64 m3)
    have HF : Hid (Src w0 (some ⟨b, off, none⟩) len cap zs ((((w.setCell ⟨S, 1, none⟩ (.int .i64 ((k : Int) + 1))).setCell ⟨S, 2, none⟩ (.int .u64 m1)).setCell ⟨S, 2, none⟩ (.int .u64 m2)).setCell ⟨S, 2, none⟩ (.int .u64 m3)).drew.drew.drew.drew.drew S ∧ w.grownBy ((((w.setCell ⟨S, 1, none⟩ (.int .i64 ((k : Int) + 1))).setCell ⟨S, 2, none⟩ (.int .u64 m1)).setCell ⟨S, 2, none⟩ (.int .u64 m2)).setCell ⟨S, 2, none⟩ (.int .u64 m3)).drew.drew.drew.drew.drew (some S)) :=
      Hfin.out (k + 1) _ (by omega) (grown_drew (grown_drew (grown_drew (grown_drew (grown_drew hg))))) (by simpa [heap_drew] using hh)
    clear hrow hbel hobj hh hg Hfin
    go_enter Tryd.func35, Tryd.ntmps35
    go_wp2
    go_region
    all_goals go_wp2
    all_goals go_region
    all_goals go_wp2
    all_goals go_region
    all_goals go_wp2
    all_goals go_region
    all_goals go_wp2
    all_goals go_region
    all_goals go_wp2
    go_ret
    have hr := mod_bd (v + m3 / 1048576) most hmo hmo1
    exact ⟨_, ret_int hr.1, hr.2.1, hr.2.2, HF.out.1, HF.out.2⟩
  · have hd : decide (k < len) = false := by simpa using hkl
    have hh := heap_setCell (heap_setCell (heap_setCell hobj 2 (.int .u64 m1)) 2 (.int .u64 m2)) 2 (.int .u64 m3)
    have h3 := Lib.cell_of_heap hh 2
    simp at h3
    have hg := grown_setCell (grown_setCell (grown_setCell (World.grownBy.refl w (some S)) 2 (.int .u64 m1)) 2 (.int .u64 m2)) 2 (.int .u64 m3)
    have HF : Hid (Src w0 a len cap zs (((w.setCell ⟨S, 2, none⟩ (.int .u64 m1)).setCell ⟨S, 2, none⟩ (.int .u64 m2)).setCell ⟨S, 2, none⟩ (.int .u64 m3)).drew.drew.drew.drew S ∧ w.grownBy (((w.setCell ⟨S, 2, none⟩ (.int .u64 m1)).setCell ⟨S, 2, none⟩ (.int .u64 m2)).setCell ⟨S, 2, none⟩ (.int .u64 m3)).drew.drew.drew.drew (some S)) :=
      Hfin.out k _ hk (grown_drew (grown_drew (grown_drew (grown_drew hg)))) (by simpa [heap_drew] using hh)
    clear hrow hbel hobj hh hg Hfin
    go_enter Tryd.func35, Tryd.ntmps35
    go_wp2
    go_region
    all_goals go_wp2
    all_goals go_region
    all_goals go_wp2
    all_goals go_region
    all_goals go_wp2
    all_goals go_region
    all_goals go_wp2
    go_ret
    have hr := mod_bd (m3 / 1048576) most hmo hmo1
    exact ⟨_, ret_int hr.1, hr.2.1, hr.2.2, HF.out.1, HF.out.2⟩
end Go.Proofs.YtkhjmjlmbeealaaDoor.Draw
