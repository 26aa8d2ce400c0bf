/- What is drawn for the law FnMoney: two numbers, a rate, texts of money and rates, at times spoilt; nothing old is turned. -/
import Derived.Test.YtgbkpifkmkjbaaaDoorDrawM
import Derived.Test.YtgbkpifkmkjbaaaDoorNames
import Derived.Test.YtgbkpifkmkjbaaaDoorTexts
namespace Go.Proofs.YtgbkpifkmkjbaaaDoor.Draw
open Go.RowKit

theorem Src.under {w0 : World} {a : Option Addr} {len cap : Nat} {zs : List Int} {w w' : World} {S : Nat} (h : Src w0 a len cap zs w S) (hb : Below w.heap.size w w') : Src w0 a len cap zs w' S := by
  have hlt := h.lt
  obtain ⟨hrow, hsm, hbel, hlo, k, m, z, hk, hm0, hm1, hz0, hz1, hobj⟩ := h
  exact ⟨hrow, hsm, hbel.trans (hb.mono hbel.size), hlo, k, m, z, hk, hm0, hm1, hz0, hz1, by rw [hb.block S hlt]; exact hobj⟩
theorem below_src {w w1 w2 : World} {S : Nat} (hb : Below w.heap.size w w1) (hg : w1.grownBy w2 (some S)) (hS : w.heap.size ≤ S) : Below w.heap.size w w2 := hb.grown hg hb.size (fun k hk => by cases hk; exact hS)

set_option maxRecDepth 100000 in
set_option maxHeartbeats 4000000 in
theorem draw_moneyAdd {w0 : World} {a : Option Addr} {len cap : Nat} {zs : List Int} (hrow : IsRow .u8 w0 a len cap zs) (hsm : len ≤ 1048576) (w : World) (hb0 : Below w0.heap.size w0 w) :
    Calls Tryd.prog 14 #[.slice a len cap] w fun e w' => ∃ x y : Int, e = .returned (.tuple #[.int .i64 x, .int .i64 y]) ∧ (-9223372036854775808 ≤ x ∧ x ≤ 9223372036854775807) ∧ (-9223372036854775808 ≤ y ∧ y ≤ 9223372036854775807) ∧ Below w.heap.size w w' := by
  go_enter Tryd.func14, Tryd.ntmps14
  go_wp2_with fail
  refine (draw_source hrow hsm w hb0).mono ?_
  rintro e w1 ⟨S, rfl, hSlo, hs1, hg1⟩
  go_wp2_with fail
  refine (draw_money hs1).mono ?_
  rintro e w2 ⟨x, rfl, x0, x1, hs2, hg2⟩
  go_wp2_with fail
  refine (draw_money hs2).mono ?_
  rintro e w3 ⟨y, rfl, y0, y1, hs3, hg3⟩
  have HB : Hid (Below w.heap.size w w3) := by
    have b1 := (Below.refl w.heap.size w).grown hg1 (Nat.le_refl _) (fun k hk => by cases hk)
    exact below_src (below_src b1 hg2 hSlo) hg3 hSlo
  clear hg1 hg2 hg3
  go_wp2_with fail
  go_ret2
  exact ⟨x, y, rfl, ⟨x0, x1⟩, ⟨y0, y1⟩, HB.out⟩

set_option maxRecDepth 100000 in
set_option maxHeartbeats 4000000 in
/-- A drawn rate: some number. -/
theorem draw_rate {w0 : World} {a : Option Addr} {len cap : Nat} {zs : List Int} {w : World} {S : Nat} (hS : Src w0 a len cap zs w S) :
    Calls Tryd.prog 59 #[.pointer (some ⟨S, 0, none⟩)] w fun e w' => ∃ r : Int, e = .returned (.int .i64 r) ∧ -9223372036854775808 ≤ r ∧ r ≤ 9223372036854775807 ∧ Src w0 a len cap zs w' S ∧ w.grownBy w' (some S) := by
  go_enter Tryd.func59, Tryd.ntmps59
  go_wp2_with fail
  refine (draw_n hS 6 (by omega) (by omega)).mono ?_
  rintro e w1 ⟨r, rfl, h0, h1, hs1, hg1⟩
  have hlt := hs1.lt
  have HG1 : Hid (w.grownBy w1 (some S)) := hg1
  clear hg1
  by_cases c0 : r = 0
  · subst c0
    go_wp2_with fail
    refine (draw_edge hs1).mono ?_
    rintro e w2 ⟨x, rfl, hx0, hx1, hs2, hg2⟩
    go_wp2_with fail
    go_ret
    exact ⟨x, rfl, hx0, hx1, hs2, grown_trans HG1.out hg2⟩
  have t0 : (r == 0) = false := beq_eq_false_iff_ne.2 c0
  by_cases c1 : r = 1
  · subst c1
    go_wp2_with fail
    refine (draw_n (hs1.alloc _) 6 (by omega) (by omega)).mono ?_
    rintro e w2 ⟨k, rfl, k0, k1, hs2, hg2⟩
    obtain ⟨R, rfl⟩ : ∃ R : Nat, k = R := ⟨k.toNat, by omega⟩
    obtain ⟨x, hx0, hx1, hx⟩ := pick_at [0, 1, 1000000, 1000001, 500000, 500001] R (by simp; omega) (by intro x hx; simp at hx; omega)
    have hcell : w2.cell? ⟨w1.heap.size, R, none⟩ = some (.int .i64 x) := (cell_new hg2 hlt R).trans hx
    have HG : Hid (w.grownBy w2 (some S)) := grown_trans HG1.out (grown_over hg2)
    clear hg2 hx
    go_wp2_with fail
    go_ret
    exact ⟨x, rfl, hx0, hx1, hs2, HG.out⟩
  have t1 : (r == 1) = false := beq_eq_false_iff_ne.2 c1
  clear c0 c1
  go_wp2_with fail
  refine (draw_n hs1 120000 (by omega) (by omega)).mono ?_
  rintro e w2 ⟨x, rfl, x0, x1, hs2, hg2⟩
  go_wp2_with fail
  go_ret
  exact ⟨_, rfl, by omega, by omega, hs2, grown_trans HG1.out hg2⟩

set_option maxRecDepth 100000 in
set_option maxHeartbeats 4000000 in
theorem draw_rateText {w0 : World} {a : Option Addr} {len cap : Nat} {zs : List Int} (hrow : IsRow .u8 w0 a len cap zs) (hsm : len ≤ 1048576) (w : World) (hb0 : Below w0.heap.size w0 w) :
    Calls Tryd.prog 21 #[.slice a len cap] w fun e w' => ∃ x : Int, e = .returned (.int .i64 x) ∧ Below w.heap.size w w' := by
  go_enter Tryd.func21, Tryd.ntmps21
  go_wp2_with fail
  refine (draw_source hrow hsm w hb0).mono ?_
  rintro e w1 ⟨S, rfl, hSlo, hs1, hg1⟩
  go_wp2_with fail
  refine (draw_rate hs1).mono ?_
  rintro e w2 ⟨x, rfl, x0, x1, hs2, hg2⟩
  have HB : Hid (Below w.heap.size w w2) := by
    have b1 := (Below.refl w.heap.size w).grown hg1 (Nat.le_refl _) (fun k hk => by cases hk)
    exact below_src b1 hg2 hSlo
  clear hg1 hg2
  go_wp2_with fail
  go_ret
  exact ⟨x, rfl, HB.out⟩

set_option maxRecDepth 100000 in
set_option maxHeartbeats 4000000 in
theorem draw_moneyRead {w0 : World} {a : Option Addr} {len cap : Nat} {zs : List Int} (hrow : IsRow .u8 w0 a len cap zs) (hsm : len ≤ 1048576) (w : World) (hb0 : Below w0.heap.size w0 w) :
    Calls Tryd.prog 25 #[.slice a len cap] w fun e w' => ∃ t : ByteArray, e = .returned (.string t) ∧ t.size ≤ 100 ∧ Below w.heap.size w w' := by
  go_enter Tryd.func25, Tryd.ntmps25
  go_wp2_with fail
  refine (draw_source hrow hsm w hb0).mono ?_
  rintro e w1 ⟨S, rfl, hSlo, hs1, hg1⟩
  go_wp2_with fail
  refine (draw_money hs1).mono ?_
  rintro e w2 ⟨x, rfl, x0, x1, hs2, hg2⟩
  go_wp2_with fail
  refine (spec_moneyText x _).mono ?_
  rintro e w3 ⟨rfl, hb3⟩
  have hlen : (strB (moneyT x)).size ≤ 15 := by have := moneyT_len x; rw [strB_size]; omega
  have hs3 := hs2.under hb3
  have HB : Hid (Below w.heap.size w w3) := by
    have b1 := (Below.refl w.heap.size w).grown hg1 (Nat.le_refl _) (fun k hk => by cases hk)
    have b2 := below_src b1 hg2 hSlo
    exact b2.trans (hb3.mono b2.size)
  have HS : Hid (w.heap.size ≤ S) := hSlo
  generalize strB (moneyT x) = E at *
  clear hg1 hg2 hb3 hs1 hs2 hSlo
  go_wp2_with fail
  refine (draw_one hs3 3 (by omega) (by omega)).mono ?_
  rintro e w4 ⟨b, rfl, hs4, hg4⟩
  have HB4 : Hid (Below w.heap.size w w4) := below_src HB.out hg4 HS.out
  clear hg4
  cases b
  · go_wp2_with fail
    go_ret
    exact ⟨E, rfl, by omega, HB4.out⟩
  · go_wp2_with fail
    refine (draw_spoil hs4 E (by omega)).mono ?_
    rintro e w5 ⟨F, rfl, hF, hs5, hg5⟩
    have HB5 : Hid (Below w.heap.size w w5) := below_src HB4.out hg5 HS.out
    clear hg5
    go_wp2_with fail
    go_ret
    exact ⟨F, rfl, by omega, HB5.out⟩

set_option maxRecDepth 100000 in
set_option maxHeartbeats 4000000 in
theorem draw_rateRead {w0 : World} {a : Option Addr} {len cap : Nat} {zs : List Int} (hrow : IsRow .u8 w0 a len cap zs) (hsm : len ≤ 1048576) (w : World) (hb0 : Below w0.heap.size w0 w) :
    Calls Tryd.prog 26 #[.slice a len cap] w fun e w' => ∃ t : ByteArray, e = .returned (.string t) ∧ t.size ≤ 100 ∧ Below w.heap.size w w' := by
  go_enter Tryd.func26, Tryd.ntmps26
  go_wp2_with fail
  refine (draw_source hrow hsm w hb0).mono ?_
  rintro e w1 ⟨S, rfl, hSlo, hs1, hg1⟩
  go_wp2_with fail
  refine (draw_rate hs1).mono ?_
  rintro e w2 ⟨x, rfl, x0, x1, hs2, hg2⟩
  go_wp2_with fail
  refine (spec_rateText x _).mono ?_
  rintro e w3 ⟨rfl, hb3⟩
  have hlen : (strB (rateT x)).size ≤ 15 := by have := rateT_len x; rw [strB_size]; omega
  have hs3 := hs2.under hb3
  have HB : Hid (Below w.heap.size w w3) := by
    have b1 := (Below.refl w.heap.size w).grown hg1 (Nat.le_refl _) (fun k hk => by cases hk)
    have b2 := below_src b1 hg2 hSlo
    exact b2.trans (hb3.mono b2.size)
  have HS : Hid (w.heap.size ≤ S) := hSlo
  generalize strB (rateT x) = E at *
  clear hg1 hg2 hb3 hs1 hs2 hSlo
  go_wp2_with fail
  refine (draw_one hs3 3 (by omega) (by omega)).mono ?_
  rintro e w4 ⟨b, rfl, hs4, hg4⟩
  have HB4 : Hid (Below w.heap.size w w4) := below_src HB.out hg4 HS.out
  clear hg4
  cases b
  · go_wp2_with fail
    go_ret
    exact ⟨E, rfl, by omega, HB4.out⟩
  · go_wp2_with fail
    refine (draw_spoil hs4 E (by omega)).mono ?_
    rintro e w5 ⟨F, rfl, hF, hs5, hg5⟩
    have HB5 : Hid (Below w.heap.size w w5) := below_src HB4.out hg5 HS.out
    clear hg5
    go_wp2_with fail
    go_ret
    exact ⟨F, rfl, by omega, HB5.out⟩
end Go.Proofs.YtgbkpifkmkjbaaaDoor.Draw
