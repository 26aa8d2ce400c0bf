/- Drawn money (spec's l02Money) and what is drawn for MulDiv (spec.DrawMulDiv): numbers of int64; nothing old is turned. -/
import Derived.Test.YtgbkpifkmkjbaaaDoorSrc2
namespace Go.Proofs.YtgbkpifkmkjbaaaDoor.Draw
open Go.RowKit

theorem pick_at (l : List Int) (R : Nat) (h : R < l.length) (hl : ∀ x ∈ l, -9223372036854775808 ≤ x ∧ x ≤ 9223372036854775807) : ∃ x : Int, -9223372036854775808 ≤ x ∧ x ≤ 9223372036854775807 ∧ (l.map fun z => Value.int .i64 z).toArray[R]? = some (.int .i64 x) :=
  ⟨l[R], (hl _ (List.getElem_mem h)).1, (hl _ (List.getElem_mem h)).2, by simp [h]⟩
theorem cell_new {w w' : World} {S : Nat} {cs : Array Value} {t : TypeId} (hg : (w.alloc (.cells cs t)).grownBy w' (some S)) (hlt : S < w.heap.size) (R : Nat) : w'.cell? ⟨w.heap.size, R, none⟩ = cs[R]? := by
  rw [World.cell?_of_block (w := w.alloc _) (hg.block w.heap.size (by simp) (by simp; omega)), World.cell?_alloc_new]

set_option maxRecDepth 100000 in
set_option maxHeartbeats 4000000 in
/-- Drawn money: some number. -/
theorem draw_money {w0 : World} {a : Option Addr} {len cap : Nat} {zs : List Int} {w : World} {S : Nat} (hS : Src w0 a len cap zs w S) :
    Calls Tryd.prog 53 #[.pointer (some ⟨S, 0, none⟩)] w fun e w' => ∃ r : Int, e = .returned (.int .i64 r) ∧ -9223372036854775808 ≤ r ∧ r ≤ 9223372036854775807 ∧ Src w0 a len cap zs w' S ∧ w.grownBy w' (some S) := by
  go_enter Tryd.func53, Tryd.ntmps53
  go_wp2_with fail
  refine (draw_n hS 8 (by omega) (by omega)).mono ?_
  rintro e w1 ⟨r, rfl, h0, h1, hs1, hg1⟩
  have hlt := hs1.lt
  have HG1 : Hid (w.grownBy w1 (some S)) := hg1
  clear hg1
  by_cases c0 : r = 0
  · subst c0
    go_wp2_with fail
    refine (draw_edge hs1).mono ?_
    rintro e w2 ⟨x, rfl, hx0, hx1, hs2, hg2⟩
    go_wp2_with fail
    go_ret
    exact ⟨x, rfl, hx0, hx1, hs2, grown_trans HG1.out hg2⟩
  have t0 : (r == 0) = false := beq_eq_false_iff_ne.2 c0
  by_cases c1 : r = 1
  · subst c1
    go_wp2_with fail
    refine (draw_n (hs1.alloc _) 5 (by omega) (by omega)).mono ?_
    rintro e w2 ⟨k, rfl, k0, k1, hs2, hg2⟩
    obtain ⟨R, rfl⟩ : ∃ R : Nat, k = R := ⟨k.toNat, by omega⟩
    obtain ⟨x, hx0, hx1, hx⟩ := pick_at [1000000000000, -1000000000000, 1000000000001, -1000000000001, 999999999999] R (by simp; omega) (by intro x hx; simp at hx; omega)
    have hcell : w2.cell? ⟨w1.heap.size, R, none⟩ = some (.int .i64 x) := (cell_new hg2 hlt R).trans hx
    have HG : Hid (w.grownBy w2 (some S)) := grown_trans HG1.out (grown_over hg2)
    clear hg2 hx
    go_wp2_with fail
    go_ret
    exact ⟨x, rfl, hx0, hx1, hs2, HG.out⟩
  have t1 : (r == 1) = false := beq_eq_false_iff_ne.2 c1
  by_cases c2 : r = 2
  · subst c2
    go_wp2_with fail
    refine (draw_n hs1 9 (by omega) (by omega)).mono ?_
    rintro e w2 ⟨x, rfl, x0, x1, hs2, hg2⟩
    go_wp2_with fail
    go_ret
    exact ⟨_, rfl, by omega, by omega, hs2, grown_trans HG1.out hg2⟩
  have t2 : (r == 2) = false := beq_eq_false_iff_ne.2 c2
  by_cases c3 : r = 3
  · subst c3
    go_wp2_with fail
    refine (draw_n hs1 1000000000000 (by omega) (by omega)).mono ?_
    rintro e w2 ⟨x, rfl, x0, x1, hs2, hg2⟩
    go_wp2_with fail
    go_ret
    exact ⟨_, rfl, by omega, by omega, hs2, grown_trans HG1.out hg2⟩
  have t3 : (r == 3) = false := beq_eq_false_iff_ne.2 c3
  clear c0 c1 c2 c3
  go_wp2_with fail
  refine (draw_n hs1 1000000 (by omega) (by omega)).mono ?_
  rintro e w2 ⟨x, rfl, x0, x1, hs2, hg2⟩
  go_wp2_with fail
  go_ret
  exact ⟨_, rfl, by omega, by omega, hs2, grown_trans HG1.out hg2⟩

set_option maxRecDepth 100000 in
set_option maxHeartbeats 4000000 in
theorem draw_mulDiv {w0 : World} {a : Option Addr} {len cap : Nat} {zs : List Int} (hrow : IsRow .u8 w0 a len cap zs) (hsm : len ≤ 1048576) (w : World) (hb0 : Below w0.heap.size w0 w) :
    Calls Tryd.prog 29 #[.slice a len cap] w fun e w' => ∃ x y z : Int, e = .returned (.tuple #[.int .i64 x, .int .i64 y, .int .i64 z]) ∧ (-9223372036854775808 ≤ x ∧ x ≤ 9223372036854775807) ∧ (-9223372036854775808 ≤ y ∧ y ≤ 9223372036854775807) ∧ (-9223372036854775808 ≤ z ∧ z ≤ 9223372036854775807) ∧ Below w.heap.size w w' := by
  go_enter Tryd.func29, Tryd.ntmps29
  go_wp2_with fail
  refine (draw_source hrow hsm w hb0).mono ?_
  rintro e w1 ⟨S, rfl, hSlo, hs1, hg1⟩
  go_wp2_with fail
  refine (draw_money hs1).mono ?_
  rintro e w2 ⟨x, rfl, x0, x1, hs2, hg2⟩
  go_wp2_with fail
  refine (draw_n hs2 1000000 (by omega) (by omega)).mono ?_
  rintro e w3 ⟨y, rfl, y0, y1, hs3, hg3⟩
  go_wp2_with fail
  refine (draw_n hs3 365000000 (by omega) (by omega)).mono ?_
  rintro e w4 ⟨z, rfl, z0, z1, hs4, hg4⟩
  go_wp2_with fail
  refine (draw_n hs4 6 (by omega) (by omega)).mono ?_
  rintro e w5 ⟨r, rfl, r0, r1, hs5, hg5⟩
  have hlt := hs5.lt
  have HB : Hid (Below w.heap.size w w5) := by
    have s1 := hg1.size
    have b1 := (Below.refl w.heap.size w).grown hg1 (Nat.le_refl _) (fun k hk => by cases hk)
    have b2 := b1.grown hg2 b1.size (fun k hk => by cases hk; exact hSlo)
    have b3 := b2.grown hg3 b2.size (fun k hk => by cases hk; exact hSlo)
    have b4 := b3.grown hg4 b3.size (fun k hk => by cases hk; exact hSlo)
    exact b4.grown hg5 b4.size (fun k hk => by cases hk; exact hSlo)
  have HS : Hid (w.heap.size ≤ S) := hSlo
  clear hg1 hg2 hg3 hg4 hg5 hs1 hs2 hs3 hs4 hSlo
  by_cases c0 : r = 0
  · subst c0
    go_wp2_with fail
    refine (draw_n (hs5.alloc _) 5 (by omega) (by omega)).mono ?_
    rintro e w6 ⟨k, rfl, k0, k1, hs6, hg6⟩
    obtain ⟨R, rfl⟩ : ∃ R : Nat, k = R := ⟨k.toNat, by omega⟩
    obtain ⟨v, hv0, hv1, hv⟩ := pick_at [0, 10000000000, 10000000001, -1, 1] R (by simp; omega) (by intro x hx; simp at hx; omega)
    have hcell : w6.cell? ⟨w5.heap.size, R, none⟩ = some (.int .i64 v) := (cell_new hg6 hlt R).trans hv
    have HG : Hid (Below w.heap.size w w6) := HB.out.grown (grown_over hg6) HB.out.size (fun k hk => by cases hk; exact HS.out)
    clear hg6 hv
    go_wp2_with fail
    go_ret3
    exact ⟨x, v, 1 + z, rfl, ⟨x0, x1⟩, ⟨hv0, hv1⟩, ⟨by omega, by omega⟩, HG.out⟩
  have t0 : (r == 0) = false := beq_eq_false_iff_ne.2 c0
  by_cases c1 : r = 1
  · subst c1
    go_wp2_with fail
    refine (draw_n (hs5.alloc _) 6 (by omega) (by omega)).mono ?_
    rintro e w6 ⟨k, rfl, k0, k1, hs6, hg6⟩
    obtain ⟨R, rfl⟩ : ∃ R : Nat, k = R := ⟨k.toNat, by omega⟩
    obtain ⟨v, hv0, hv1, hv⟩ := pick_at [0, 1, 2, 1000000000, 1000000001, -1] R (by simp; omega) (by intro x hx; simp at hx; omega)
    have hcell : w6.cell? ⟨w5.heap.size, R, none⟩ = some (.int .i64 v) := (cell_new hg6 hlt R).trans hv
    have HG : Hid (Below w.heap.size w w6) := HB.out.grown (grown_over hg6) HB.out.size (fun k hk => by cases hk; exact HS.out)
    clear hg6 hv
    go_wp2_with fail
    go_ret3
    exact ⟨x, y, v, rfl, ⟨x0, x1⟩, ⟨by omega, by omega⟩, ⟨hv0, hv1⟩, HG.out⟩
  have t1 : (r == 1) = false := beq_eq_false_iff_ne.2 c1
  by_cases c2 : r = 2
  · subst c2
    go_wp2_with fail
    refine (draw_n hs5 20 (by omega) (by omega)).mono ?_
    rintro e w6 ⟨z', rfl, z0', z1', hs6, hg6⟩
    go_wp2_with fail
    refine (draw_n hs6 40 (by omega) (by omega)).mono ?_
    rintro e w7 ⟨y', rfl, y0', y1', hs7, hg7⟩
    have HG : Hid (Below w.heap.size w w7) := by
      have b6 := HB.out.grown hg6 HB.out.size (fun k hk => by cases hk; exact HS.out)
      exact b6.grown hg7 b6.size (fun k hk => by cases hk; exact HS.out)
    clear hg6 hg7
    go_wp2_with fail
    go_ret3
    exact ⟨x, y', 1 + z', rfl, ⟨x0, x1⟩, ⟨by omega, by omega⟩, ⟨by omega, by omega⟩, HG.out⟩
  have t2 : (r == 2) = false := beq_eq_false_iff_ne.2 c2
  clear c0 c1 c2
  go_wp2_with fail
  go_ret3
  exact ⟨x, y, 1 + z, rfl, ⟨x0, x1⟩, ⟨by omega, by omega⟩, ⟨by omega, by omega⟩, HB.out⟩
end Go.Proofs.YtgbkpifkmkjbaaaDoor.Draw
