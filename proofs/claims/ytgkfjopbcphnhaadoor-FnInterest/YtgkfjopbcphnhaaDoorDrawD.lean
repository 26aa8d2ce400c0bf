/- Drawn days, months and what is drawn for Interest: numbers of int64; nothing old is turned. -/
import Derived.Test.YtgkfjopbcphnhaaDoorDrawT
import Derived.Test.YtgkfjopbcphnhaaDoorDateS
namespace Go.Proofs.YtgkfjopbcphnhaaDoor.Draw
open Go.RowKit

set_option maxRecDepth 100000 in
set_option maxHeartbeats 4000000 in
/-- A drawn day, as a rule: some number. -/
theorem draw_day {w0 : World} {a : Option Addr} {len cap : Nat} {zs : List Int} {w : World} {S : Nat} (hS : Src w0 a len cap zs w S) :
    Calls Tryd.prog 37 #[.pointer (some ⟨S, 0, none⟩)] w fun e w' => ∃ r : Int, e = .returned (.int .i64 r) ∧ -9223372036854775808 ≤ r ∧ r ≤ 9223372036854775807 ∧ Src w0 a len cap zs w' S ∧ w.grownBy w' (some S) := by
  go_enter Tryd.func37, Tryd.ntmps37
  go_wp2_with fail
  refine (draw_n hS 8 (by omega) (by omega)).mono ?_
  rintro e w1 ⟨r, rfl, h0, h1, hs1, hg1⟩
  have hlt := hs1.lt
  have HG1 : Hid (w.grownBy w1 (some S)) := hg1
  clear hg1
  by_cases c0 : r = 0
  · subst c0
    go_wp2_with fail
    refine (draw_edge hs1).mono ?_
    rintro e w2 ⟨x, rfl, hx0, hx1, hs2, hg2⟩
    go_wp2_with fail
    go_ret
    exact ⟨x, rfl, hx0, hx1, hs2, grown_trans HG1.out hg2⟩
  have t0 : (r == 0) = false := beq_eq_false_iff_ne.2 c0
  by_cases c1 : r = 1
  · subst c1
    go_wp2_with fail
    refine (draw_n (hs1.alloc _) 8 (by omega) (by omega)).mono ?_
    rintro e w2 ⟨k, rfl, k0, k1, hs2, hg2⟩
    obtain ⟨R, rfl⟩ : ∃ R : Nat, k = R := ⟨k.toNat, by omega⟩
    obtain ⟨x, hx0, hx1, hx⟩ := pick_at [0, 36524, 36525, -1, 58, 59, 60, 1520] R (by simp; omega) (by intro x hx; simp at hx; omega)
    have hcell : w2.cell? ⟨w1.heap.size, R, none⟩ = some (.int .i64 x) := (cell_new hg2 hlt R).trans hx
    have HG : Hid (w.grownBy w2 (some S)) := grown_trans HG1.out (grown_over hg2)
    clear hg2 hx
    go_wp2_with fail
    go_ret
    exact ⟨x, rfl, hx0, hx1, hs2, HG.out⟩
  have t1 : (r == 1) = false := beq_eq_false_iff_ne.2 c1
  by_cases c2 : r = 2
  · subst c2
    go_wp2_with fail
    refine (draw_n hs1 100 (by omega) (by omega)).mono ?_
    rintro e w2 ⟨y, rfl, y0, y1, hs2, hg2⟩
    have HG2 : Hid (w.grownBy w2 (some S)) := grown_trans HG1.out hg2
    clear hg2
    go_wp2_with fail
    refine (draw_n hs2 12 (by omega) (by omega)).mono ?_
    rintro e w3 ⟨m, rfl, m0, m1, hs3, hg3⟩
    have HG3 : Hid (w.grownBy w3 (some S)) := grown_trans HG2.out hg3
    clear hg3
    go_wp2_with fail
    refine (draw_n hs3 4 (by omega) (by omega)).mono ?_
    rintro e w4 ⟨d, rfl, d0, d1, hs4, hg4⟩
    have HG4 : Hid (w.grownBy w4 (some S)) := grown_trans HG3.out hg4
    clear hg4
    have hnb : 0 ≤ numB (2000 + y) (1 + m) (28 + d) ∧ numB (2000 + y) (1 + m) (28 + d) ≤ 41000 := by
      have := num_bounds (y := 2000 + y) (m := 1 + m) (by omega) (by omega) (by omega) (by omega)
      unfold numB; omega
    have H5 : Hid (∀ w, Calls Tryd.prog 63 #[.agg #[.int .i64 (2000 + y), .int .i64 (1 + m), .int .i64 (28 + d)]] w fun e w' => e = .returned (.int .i64 (numB (2000 + y) (1 + m) (28 + d))) ∧ Below w.heap.size w w') := fun w => spec_num _ _ _ (by omega) (by omega) (by omega) (by omega) (by omega) (by omega) w
    generalize numB (2000 + y) (1 + m) (28 + d) = N at *
    obtain ⟨N0, N1⟩ := hnb
    go_wp2_with fail
    refine (H5.out _).mono ?_
    rintro e w5 ⟨rfl, hb5⟩
    have hs5 := hs4.under hb5
    have HG5 : Hid (w.grownBy w5 (some S)) := grown_trans HG4.out ⟨hb5.os, hb5.tape, hb5.output, hb5.size, fun k hk _ => hb5.block k hk⟩
    clear hb5
    go_wp2_with fail
    go_ret
    exact ⟨_, rfl, by omega, by omega, hs5, HG5.out⟩
  have t2 : (r == 2) = false := beq_eq_false_iff_ne.2 c2
  clear c0 c1 c2
  go_wp2_with fail
  refine (draw_n hs1 36525 (by omega) (by omega)).mono ?_
  rintro e w2 ⟨x, rfl, x0, x1, hs2, hg2⟩
  go_wp2_with fail
  go_ret
  exact ⟨_, rfl, by omega, by omega, hs2, grown_trans HG1.out hg2⟩



theorem results_tmp5 {fn : Func} {t u v x y : Tmp} (h : fn.results = #[.tmp t, .tmp u, .tmp v, .tmp x, .tmp y]) (tmps : Array Value) (P : Program) (w : World) :
    (results fn tmps).run P w = .ok (.tuple #[tmps.getD t undef, tmps.getD u undef, tmps.getD v undef, tmps.getD x undef, tmps.getD y undef]) w := by
  simp [results, h]
set_option maxRecDepth 100000 in
set_option maxHeartbeats 4000000 in
theorem draw_interest {w0 : World} {a : Option Addr} {len cap : Nat} {zs : List Int} (hrow : IsRow .u8 w0 a len cap zs) (hsm : len ≤ 1048576) (w : World) (hb0 : Below w0.heap.size w0 w) :
    Calls Tryd.prog 12 #[.slice a len cap] w fun e w' => ∃ x1 x2 x3 x4 x5 : Int, e = .returned (.tuple #[.int .i64 x1, .int .i64 x2, .int .i64 x3, .int .i64 x4, .int .i64 x5]) ∧ Below w.heap.size w w' := by
  go_enter Tryd.func12, Tryd.ntmps12
  go_wp2_with fail
  refine (draw_source hrow hsm w hb0).mono ?_
  rintro e w1 ⟨S, rfl, hSlo, hs1, hg1⟩
  have HB1 : Hid (Below w.heap.size w w1) := (Below.refl w.heap.size w).grown hg1 (Nat.le_refl _) (fun k hk => by cases hk)
  have HS : Hid (w.heap.size ≤ S) := hSlo
  clear hg1 hSlo
  go_wp2_with fail
  refine (draw_n hs1 3 (by omega) (by omega)).mono ?_
  rintro e w2 ⟨b, rfl, b0, b1, hs2, hg2⟩
  have HB2 : Hid (Below w.heap.size w w2) := below_src HB1.out hg2 HS.out
  clear hg2 hs1
  go_wp2_with fail
  refine (draw_day hs2).mono ?_
  rintro e w3 ⟨x, rfl, x0, x1, hs3, hg3⟩
  have HB3 : Hid (Below w.heap.size w w3) := below_src HB2.out hg3 HS.out
  clear hg3 hs2
  go_wp2_with fail
  refine (draw_day hs3).mono ?_
  rintro e w4 ⟨y, rfl, y0, y1, hs4, hg4⟩
  have HB4 : Hid (Below w.heap.size w w4) := below_src HB3.out hg4 HS.out
  clear hg4 hs3
  go_wp2_with fail
  refine (draw_one hs4 2 (by omega) (by omega)).mono ?_
  rintro e w5 ⟨c, rfl, hs5, hg5⟩
  have HB5 : Hid (Below w.heap.size w w5) := below_src HB4.out hg5 HS.out
  clear hg5 hs4
  cases c
  · go_wp2_with fail
    refine (draw_money hs5).mono ?_
    rintro e w6 ⟨n, rfl, n0, n1, hs6, hg6⟩
    have HB6 : Hid (Below w.heap.size w w6) := below_src HB5.out hg6 HS.out
    clear hg6 hs5
    go_wp2_with fail
    refine (draw_rate hs6).mono ?_
    rintro e w7 ⟨r, rfl, r0, r1, hs7, hg7⟩
    have HB7 : Hid (Below w.heap.size w w7) := below_src HB6.out hg7 HS.out
    clear hg7 hs6
    go_wp2_with fail
    refine bodyPost_ret (results_tmp5 rfl _ _ _) rfl ?_
    exact ⟨n, r, 1 + b, x, y, rfl, HB7.out⟩
  · go_wp2_with fail
    refine (draw_n hs5 800 (by omega) (by omega)).mono ?_
    rintro e w8 ⟨z, rfl, z0, z1, hs8, hg8⟩
    have HB8 : Hid (Below w.heap.size w w8) := below_src HB5.out hg8 HS.out
    clear hg8 hs5
    obtain ⟨t, ht⟩ : ∃ t, wrap64 (x + z) = t := ⟨_, rfl⟩
    go_wp2_with fail
    refine (draw_money hs8).mono ?_
    rintro e w6 ⟨n, rfl, n0, n1, hs6, hg6⟩
    have HB6 : Hid (Below w.heap.size w w6) := below_src HB8.out hg6 HS.out
    clear hg6 hs8
    go_wp2_with fail
    refine (draw_rate hs6).mono ?_
    rintro e w7 ⟨r, rfl, r0, r1, hs7, hg7⟩
    have HB7 : Hid (Below w.heap.size w w7) := below_src HB6.out hg7 HS.out
    clear hg7 hs6
    go_wp2_with fail
    refine bodyPost_ret (results_tmp5 rfl _ _ _) rfl ?_
    exact ⟨n, r, 1 + b, x, _, rfl, HB7.out⟩
end Go.Proofs.YtgkfjopbcphnhaaDoor.Draw
