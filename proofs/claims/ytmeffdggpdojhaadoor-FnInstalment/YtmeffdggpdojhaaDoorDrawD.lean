/- Drawn days, months and what is drawn for Interest: numbers of int64; nothing old is turned. -/
import Derived.Test.YtmeffdggpdojhaaDoorDrawT
import Derived.Test.YtmeffdggpdojhaaDoorDateS
namespace Go.Proofs.YtmeffdggpdojhaaDoor.Draw
open Go.RowKit

set_option maxRecDepth 100000 in
set_option maxHeartbeats 4000000 in
/-- A drawn day, as a rule: some number. -/
theorem draw_day {w0 : World} {a : Option Addr} {len cap : Nat} {zs : List Int} {w : World} {S : Nat} (hS : Src w0 a len cap zs w S) :
    Calls Tryd.prog 92 #[.pointer (some ⟨S, 0, none⟩)] w fun e w' => ∃ r : Int, e = .returned (.int .i64 r) ∧ -9223372036854775808 ≤ r ∧ r ≤ 9223372036854775807 ∧ Src w0 a len cap zs w' S ∧ w.grownBy w' (some S) := by
  go_enter Tryd.func92, Tryd.ntmps92
  go_wp2_with fail
  refine (draw_n hS 8 (by omega) (by omega)).mono ?_
  rintro e w1 ⟨r, rfl, h0, h1, hs1, hg1⟩
  have hlt := hs1.lt
  have HG1 : Hid (w.grownBy w1 (some S)) := hg1
  clear hg1
  by_cases c0 : r = 0
  · subst c0
    go_wp2_with fail
    refine (draw_edge hs1).mono ?_
    rintro e w2 ⟨x, rfl, hx0, hx1, hs2, hg2⟩
    go_wp2_with fail
    go_ret
    exact ⟨x, rfl, hx0, hx1, hs2, grown_trans HG1.out hg2⟩
  have t0 : (r == 0) = false := beq_eq_false_iff_ne.2 c0
  by_cases c1 : r = 1
  · subst c1
    go_wp2_with fail
    refine (draw_n (hs1.alloc _) 8 (by omega) (by omega)).mono ?_
    rintro e w2 ⟨k, rfl, k0, k1, hs2, hg2⟩
    obtain ⟨R, rfl⟩ : ∃ R : Nat, k = R := ⟨k.toNat, by omega⟩
    obtain ⟨x, hx0, hx1, hx⟩ := pick_at [0, 36524, 36525, -1, 58, 59, 60, 1520] R (by simp; omega) (by intro x hx; simp at hx; omega)
    have hcell : w2.cell? ⟨w1.heap.size, R, none⟩ = some (.int .i64 x) := (cell_new hg2 hlt R).trans hx
    have HG : Hid (w.grownBy w2 (some S)) := grown_trans HG1.out (grown_over hg2)
    clear hg2 hx
    go_wp2_with fail
    go_ret
    exact ⟨x, rfl, hx0, hx1, hs2, HG.out⟩
  have t1 : (r == 1) = false := beq_eq_false_iff_ne.2 c1
  by_cases c2 : r = 2
  · subst c2
    go_wp2_with fail
    refine (draw_n hs1 100 (by omega) (by omega)).mono ?_
    rintro e w2 ⟨y, rfl, y0, y1, hs2, hg2⟩
    have HG2 : Hid (w.grownBy w2 (some S)) := grown_trans HG1.out hg2
    clear hg2
    go_wp2_with fail
    refine (draw_n hs2 12 (by omega) (by omega)).mono ?_
    rintro e w3 ⟨m, rfl, m0, m1, hs3, hg3⟩
    have HG3 : Hid (w.grownBy w3 (some S)) := grown_trans HG2.out hg3
    clear hg3
    go_wp2_with fail
    refine (draw_n hs3 4 (by omega) (by omega)).mono ?_
    rintro e w4 ⟨d, rfl, d0, d1, hs4, hg4⟩
    have HG4 : Hid (w.grownBy w4 (some S)) := grown_trans HG3.out hg4
    clear hg4
    have hnb : 0 ≤ numB (2000 + y) (1 + m) (28 + d) ∧ numB (2000 + y) (1 + m) (28 + d) ≤ 41000 := by
      have := num_bounds (y := 2000 + y) (m := 1 + m) (by omega) (by omega) (by omega) (by omega)
      unfold numB; omega
    have H5 : Hid (∀ w, Calls Tryd.prog 56 #[.agg #[.int .i64 (2000 + y), .int .i64 (1 + m), .int .i64 (28 + d)]] w fun e w' => e = .returned (.int .i64 (numB (2000 + y) (1 + m) (28 + d))) ∧ Below w.heap.size w w') := fun w => spec_num _ _ _ (by omega) (by omega) (by omega) (by omega) (by omega) (by omega) w
    generalize numB (2000 + y) (1 + m) (28 + d) = N at *
    obtain ⟨N0, N1⟩ := hnb
    go_wp2_with fail
    refine (H5.out _).mono ?_
    rintro e w5 ⟨rfl, hb5⟩
    have hs5 := hs4.under hb5
    have HG5 : Hid (w.grownBy w5 (some S)) := grown_trans HG4.out ⟨hb5.os, hb5.tape, hb5.output, hb5.size, fun k hk _ => hb5.block k hk⟩
    clear hb5
    go_wp2_with fail
    go_ret
    exact ⟨_, rfl, by omega, by omega, hs5, HG5.out⟩
  have t2 : (r == 2) = false := beq_eq_false_iff_ne.2 c2
  clear c0 c1 c2
  go_wp2_with fail
  refine (draw_n hs1 36525 (by omega) (by omega)).mono ?_
  rintro e w2 ⟨x, rfl, x0, x1, hs2, hg2⟩
  go_wp2_with fail
  go_ret
  exact ⟨_, rfl, by omega, by omega, hs2, grown_trans HG1.out hg2⟩



end Go.Proofs.YtmeffdggpdojhaaDoor.Draw
