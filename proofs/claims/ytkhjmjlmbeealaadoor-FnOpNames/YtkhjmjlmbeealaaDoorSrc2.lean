/- More of the drawing functions: a source made of bytes, a coin, a number at some limit, any number. -/
import Derived.Test.YtkhjmjlmbeealaaDoorSrc
namespace Go.Proofs.YtkhjmjlmbeealaaDoor.Draw
open Go.RowKit

set_option maxHeartbeats 4000000 in
/-- A number below 2 at the most: nought, and nothing is turned. -/
theorem draw_n0 (S : Nat) (w : World) (most : Int) (hmo : most ≤ 1) :
    Calls Tryd.prog 35 #[.pointer (some ⟨S, 0, none⟩), .int .i64 most] w fun e w' => e = .returned (.int .i64 0) ∧ w' = w := by
  go_enter Tryd.func35, Tryd.ntmps35
  go_wp2
  go_ret
  exact ⟨rfl, rfl⟩


theorem grown_new {w w' : World} {S : Nat} (h : w.grownBy w' none) (hS : w.heap.size ≤ S) (j : Nat) (v : Value) : w.grownBy (w'.setCell ⟨S, j, none⟩ v) none :=
  ⟨h.os, h.tape, h.output, by simpa using h.size, fun k hk hne => by
    rw [Below.heap_setCell _ _ _ _ (by simp; omega)]
    exact h.block k hk hne⟩
theorem heap_setCell_drew {w : World} {S : Nat} {o : Obj} (h : w.heap[S]? = some o) : w.drew.heap[S]? = some o := h
theorem mul_fits (x : Int) : 0 ≤ IntKind.u64.wrap x ∧ IntKind.u64.wrap x ≤ 18446744073709551615 := by
  have hw : IntKind.u64.wrap x = x % 18446744073709551616 := by simp [IntKind.wrap, IntKind.bits, IntKind.signed]
  rw [hw]
  omega

set_option maxRecDepth 100000 in
set_option maxHeartbeats 4000000 in
/-- A source made of bytes that came in. -/
theorem draw_source {w0 : World} {a : Option Addr} {len cap : Nat} {zs : List Int} (hrow : IsRow .u8 w0 a len cap zs) (hsm : len ≤ 1048576) (w : World) (hb0 : Below w0.heap.size w0 w) :
    Calls Tryd.prog 34 #[.slice a len cap] w fun e w' => ∃ S, e = .returned (.pointer (some ⟨S, 0, none⟩)) ∧ w.heap.size ≤ S ∧ Src w0 a len cap zs w' S ∧ w.grownBy w' none := by
  have hcells := fun (wr : World) (hb : Below w0.heap.size w0 wr) => hrow.byte hb
  have Hcells : Hid (∀ (wr : World), Below w0.heap.size w0 wr → ∀ k, k < len → ∃ (b off : Nat) (v : Int), a = some ⟨b, off, none⟩ ∧ 0 ≤ v ∧ v ≤ 255 ∧ b < w0.heap.size ∧ len ≤ cap ∧ wr.cell? ⟨b, off + k, none⟩ = some (.int .u8 v)) := hcells
  clear hcells
  go_enter Tryd.func34, Tryd.ntmps34
  go_wp2
  go_loopw [4] (fun i wr => ∃ (k : Nat) (m : Int), i = .int .i64 k ∧ k ≤ len ∧ k ≤ 64 ∧ 0 ≤ m ∧ m ≤ 18446744073709551615 ∧ Hid (wr.heap[w.heap.size]? = some (.cells #[.slice a len cap, .int .i64 0, .int .u64 m, .int .i64 0] 88 (0, 0))) ∧ Hid (w.grownBy wr none)) (fun i _ => 64 - (intOf i).toNat)
  case atStart =>
    refine ⟨0, 88172645463325252, rfl, by omega, by omega, by omega, by omega, heap_alloc_new w _, World.grownBy_alloc w _ none⟩
  case round =>
    obtain ⟨k, m, rfl, hk, hk64, hm0, hm1, Hh, Hg⟩ := hrel
    have hb1 : Below w0.heap.size w0 wr := hb0.grown Hg.out hb0.size (fun j hj => by cases hj)
    have h2 := Lib.cell_of_heap Hh.out 2
    have h3 := Lib.cell_of_heap Hh.out 3
    have hf := Lib.frozen_of_heap Hh.out
    simp at h2 h3
    by_cases hkl : k < len ∧ k < 64
    · obtain ⟨b, off, v, rfl, hv0, hv1, hbl, hlc, hcell⟩ := Hcells.out wr hb1 k hkl.1
      obtain ⟨m1, e1, b1, c1⟩ := mixed m v
      have HX := mul_fits (m1 * 1099511628211)
      obtain ⟨m2, e2⟩ : ∃ m2, IntKind.u64.wrap (m1 * 1099511628211) = m2 := ⟨_, rfl⟩
      rw [e2] at HX
      have hk1 : k < len := hkl.1
      have hk2 : k < 64 := hkl.2
      have t1 : decide ((k : Int) < (len : Int)) = true := by simpa using hk1
      have t2 : decide ((k : Int) < 64) = true := by simp; omega
      have HG : Hid (Below w0.heap.size w0 wr) := hb1
      clear hkl hb1 h3
      go_wp2
      go_region
      all_goals go_wp2
      go_roundw
      case rel => exact ⟨k + 1, m2, by go_num, by omega, by omega, HX.1, HX.2, heap_setCell_drew (by simpa using heap_setCell Hh.out 2 (.int .u64 m2)), grown_drew (grown_new Hg.out (Nat.le_refl _) _ _)⟩
      case measure => simp [intOf]; omega
    · have fin : ∀ (z : Int) (w' : World), 0 ≤ z → z ≤ 12 → w.grownBy w' none → w'.heap[w.heap.size]? = some (.cells #[.slice a len cap, .int .i64 0, .int .u64 m, .int .i64 z] 88 (0, 0)) → Src w0 a len cap zs w' w.heap.size ∧ w.grownBy w' none := fun z w' hz0 hz1 hg hh =>
        ⟨⟨hrow, hsm, hb0.grown hg hb0.size (fun j hj => by cases hj), hb0.size, 0, m, z, by omega, hm0, hm1, hz0, hz1, hh⟩, hg⟩
      have hh1 := heap_setCell Hh.out 3 (.int .i64 ((len : Int) / 20))
      have hh2 := heap_setCell hh1 3 (.int .i64 12)
      have hg1 := grown_new Hg.out (Nat.le_refl _) 3 (.int .i64 ((len : Int) / 20))
      have hg2 := grown_new hg1 (Nat.le_refl _) 3 (.int .i64 12)
      have h6 := Lib.cell_of_heap hh1 3
      simp at h6 hh1 hh2
      by_cases hbig : 12 < (len : Int) / 20
      · have HF : Hid (Src w0 a len cap zs ((wr.setCell ⟨w.heap.size, 3, none⟩ (.int .i64 ((len : Int) / 20))).setCell ⟨w.heap.size, 3, none⟩ (.int .i64 12)) w.heap.size ∧ w.grownBy ((wr.setCell ⟨w.heap.size, 3, none⟩ (.int .i64 ((len : Int) / 20))).setCell ⟨w.heap.size, 3, none⟩ (.int .i64 12)) none) := fin 12 _ (by omega) (by omega) hg2 hh2
        clear fin hh1 hh2 hg1 hg2 hb1 h2
        go_wp2
        all_goals go_ret
        all_goals exact ⟨w.heap.size, rfl, Nat.le_refl _, HF.out.1, HF.out.2⟩
      · have HF : Hid (Src w0 a len cap zs (wr.setCell ⟨w.heap.size, 3, none⟩ (.int .i64 ((len : Int) / 20))) w.heap.size ∧ w.grownBy (wr.setCell ⟨w.heap.size, 3, none⟩ (.int .i64 ((len : Int) / 20))) none) := fin ((len : Int) / 20) _ (by omega) (by omega) hg1 hh1
        clear fin hh1 hh2 hg1 hg2 hb1 h2
        go_wp2
        all_goals go_ret
        all_goals exact ⟨w.heap.size, rfl, Nat.le_refl _, HF.out.1, HF.out.2⟩

theorem Src.alloc {w0 : World} {a : Option Addr} {len cap : Nat} {zs : List Int} {w : World} {S : Nat} (h : Src w0 a len cap zs w S) (o : Obj) : Src w0 a len cap zs (w.alloc o) S := by
  obtain ⟨hrow, hsm, hbel, hlo, k, m, z, hk, hm0, hm1, hz0, hz1, hobj⟩ := h
  have hlt : S < w.heap.size := (Array.getElem?_eq_some_iff.1 hobj).1
  exact ⟨hrow, hsm, hbel.alloc hbel.size o, hlo, k, m, z, hk, hm0, hm1, hz0, hz1, by rw [Below.heap_alloc _ _ _ hlt]; exact hobj⟩
theorem Src.lt {w0 : World} {a : Option Addr} {len cap : Nat} {zs : List Int} {w : World} {S : Nat} (h : Src w0 a len cap zs w S) : S < w.heap.size := by
  obtain ⟨_, _, _, _, _, _, _, _, _, _, _, _, hobj⟩ := h
  exact (Array.getElem?_eq_some_iff.1 hobj).1
/-- Writes to blocks that are new, and to the source, from the world ahead of the new ones. -/
theorem grown_over {w w' : World} {S : Nat} {o : Obj} (h : (w.alloc o).grownBy w' (some S)) : w.grownBy w' (some S) := by
  refine ⟨h.os, h.tape, h.output, ?_, fun k hk hne => ?_⟩
  · have := h.size; simp at this; omega
  · rw [h.block k (by simp; omega) hne, Below.heap_alloc _ _ _ hk]


end Go.Proofs.YtkhjmjlmbeealaaDoor.Draw
