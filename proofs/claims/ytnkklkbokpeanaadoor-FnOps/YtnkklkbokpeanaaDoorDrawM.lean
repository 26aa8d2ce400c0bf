/- Drawn money (spec's l02Money) and what is drawn for MulDiv (spec.DrawMulDiv): numbers of int64; nothing old is turned. -/
import Derived.Test.YtnkklkbokpeanaaDoorSrc2
namespace Go.Proofs.YtnkklkbokpeanaaDoor.Draw
open Go.RowKit

theorem pick_at (l : List Int) (R : Nat) (h : R < l.length) (hl : ∀ x ∈ l, -9223372036854775808 ≤ x ∧ x ≤ 9223372036854775807) : ∃ x : Int, -9223372036854775808 ≤ x ∧ x ≤ 9223372036854775807 ∧ (l.map fun z => Value.int .i64 z).toArray[R]? = some (.int .i64 x) :=
  ⟨l[R], (hl _ (List.getElem_mem h)).1, (hl _ (List.getElem_mem h)).2, by simp [h]⟩
theorem cell_new {w w' : World} {S : Nat} {cs : Array Value} {t : TypeId} (hg : (w.alloc (.cells cs t)).grownBy w' (some S)) (hlt : S < w.heap.size) (R : Nat) : w'.cell? ⟨w.heap.size, R, none⟩ = cs[R]? := by
  rw [World.cell?_of_block (w := w.alloc _) (hg.block w.heap.size (by simp) (by simp; omega)), World.cell?_alloc_new]

set_option maxRecDepth 100000 in
set_option maxHeartbeats 4000000 in
/-- Drawn money: some number. -/
theorem draw_money {w0 : World} {a : Option Addr} {len cap : Nat} {zs : List Int} {w : World} {S : Nat} (hS : Src w0 a len cap zs w S) :
    Calls Tryd.prog 29 #[.pointer (some ⟨S, 0, none⟩)] w fun e w' => ∃ r : Int, e = .returned (.int .i64 r) ∧ -9223372036854775808 ≤ r ∧ r ≤ 9223372036854775807 ∧ Src w0 a len cap zs w' S ∧ w.grownBy w' (some S) := by
  go_enter Tryd.func29, Tryd.ntmps29
  go_wp2_with fail
  refine (draw_n hS 8 (by omega) (by omega)).mono ?_
  rintro e w1 ⟨r, rfl, h0, h1, hs1, hg1⟩
  have hlt := hs1.lt
  have HG1 : Hid (w.grownBy w1 (some S)) := hg1
  clear hg1
  by_cases c0 : r = 0
  · subst c0
    go_wp2_with fail
    refine (draw_edge hs1).mono ?_
    rintro e w2 ⟨x, rfl, hx0, hx1, hs2, hg2⟩
    go_wp2_with fail
    go_ret
    exact ⟨x, rfl, hx0, hx1, hs2, grown_trans HG1.out hg2⟩
  have t0 : (r == 0) = false := beq_eq_false_iff_ne.2 c0
  by_cases c1 : r = 1
  · subst c1
    go_wp2_with fail
    refine (draw_n (hs1.alloc _) 5 (by omega) (by omega)).mono ?_
    rintro e w2 ⟨k, rfl, k0, k1, hs2, hg2⟩
    obtain ⟨R, rfl⟩ : ∃ R : Nat, k = R := ⟨k.toNat, by omega⟩
    obtain ⟨x, hx0, hx1, hx⟩ := pick_at [1000000000000, -1000000000000, 1000000000001, -1000000000001, 999999999999] R (by simp; omega) (by intro x hx; simp at hx; omega)
    have hcell : w2.cell? ⟨w1.heap.size, R, none⟩ = some (.int .i64 x) := (cell_new hg2 hlt R).trans hx
    have HG : Hid (w.grownBy w2 (some S)) := grown_trans HG1.out (grown_over hg2)
    clear hg2 hx
    go_wp2_with fail
    go_ret
    exact ⟨x, rfl, hx0, hx1, hs2, HG.out⟩
  have t1 : (r == 1) = false := beq_eq_false_iff_ne.2 c1
  by_cases c2 : r = 2
  · subst c2
    go_wp2_with fail
    refine (draw_n hs1 9 (by omega) (by omega)).mono ?_
    rintro e w2 ⟨x, rfl, x0, x1, hs2, hg2⟩
    go_wp2_with fail
    go_ret
    exact ⟨_, rfl, by omega, by omega, hs2, grown_trans HG1.out hg2⟩
  have t2 : (r == 2) = false := beq_eq_false_iff_ne.2 c2
  by_cases c3 : r = 3
  · subst c3
    go_wp2_with fail
    refine (draw_n hs1 1000000000000 (by omega) (by omega)).mono ?_
    rintro e w2 ⟨x, rfl, x0, x1, hs2, hg2⟩
    go_wp2_with fail
    go_ret
    exact ⟨_, rfl, by omega, by omega, hs2, grown_trans HG1.out hg2⟩
  have t3 : (r == 3) = false := beq_eq_false_iff_ne.2 c3
  clear c0 c1 c2 c3
  go_wp2_with fail
  refine (draw_n hs1 1000000 (by omega) (by omega)).mono ?_
  rintro e w2 ⟨x, rfl, x0, x1, hs2, hg2⟩
  go_wp2_with fail
  go_ret
  exact ⟨_, rfl, by omega, by omega, hs2, grown_trans HG1.out hg2⟩

end Go.Proofs.YtnkklkbokpeanaaDoor.Draw
