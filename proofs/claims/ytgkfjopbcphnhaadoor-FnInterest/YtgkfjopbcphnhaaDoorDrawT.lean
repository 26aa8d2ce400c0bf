/- What is drawn for the law FnMoney: two numbers, a rate, texts of money and rates, at times spoilt; nothing old is turned. -/
import Derived.Test.YtgkfjopbcphnhaaDoorDrawM
import Derived.Test.YtgkfjopbcphnhaaDoorNames
namespace Go.Proofs.YtgkfjopbcphnhaaDoor.Draw
open Go.RowKit

theorem Src.under {w0 : World} {a : Option Addr} {len cap : Nat} {zs : List Int} {w w' : World} {S : Nat} (h : Src w0 a len cap zs w S) (hb : Below w.heap.size w w') : Src w0 a len cap zs w' S := by
  have hlt := h.lt
  obtain ⟨hrow, hsm, hbel, hlo, k, m, z, hk, hm0, hm1, hz0, hz1, hobj⟩ := h
  exact ⟨hrow, hsm, hbel.trans (hb.mono hbel.size), hlo, k, m, z, hk, hm0, hm1, hz0, hz1, by rw [hb.block S hlt]; exact hobj⟩
theorem below_src {w w1 w2 : World} {S : Nat} (hb : Below w.heap.size w w1) (hg : w1.grownBy w2 (some S)) (hS : w.heap.size ≤ S) : Below w.heap.size w w2 := hb.grown hg hb.size (fun k hk => by cases hk; exact hS)


set_option maxRecDepth 100000 in
set_option maxHeartbeats 4000000 in
/-- A drawn rate: some number. -/
theorem draw_rate {w0 : World} {a : Option Addr} {len cap : Nat} {zs : List Int} {w : World} {S : Nat} (hS : Src w0 a len cap zs w S) :
    Calls Tryd.prog 40 #[.pointer (some ⟨S, 0, none⟩)] w fun e w' => ∃ r : Int, e = .returned (.int .i64 r) ∧ -9223372036854775808 ≤ r ∧ r ≤ 9223372036854775807 ∧ Src w0 a len cap zs w' S ∧ w.grownBy w' (some S) := by
  go_enter Tryd.func40, Tryd.ntmps40
  go_wp2_with fail
  refine (draw_n hS 6 (by omega) (by omega)).mono ?_
  rintro e w1 ⟨r, rfl, h0, h1, hs1, hg1⟩
  have hlt := hs1.lt
  have HG1 : Hid (w.grownBy w1 (some S)) := hg1
  clear hg1
  by_cases c0 : r = 0
  · subst c0
    go_wp2_with fail
    refine (draw_edge hs1).mono ?_
    rintro e w2 ⟨x, rfl, hx0, hx1, hs2, hg2⟩
    go_wp2_with fail
    go_ret
    exact ⟨x, rfl, hx0, hx1, hs2, grown_trans HG1.out hg2⟩
  have t0 : (r == 0) = false := beq_eq_false_iff_ne.2 c0
  by_cases c1 : r = 1
  · subst c1
    go_wp2_with fail
    refine (draw_n (hs1.alloc _) 6 (by omega) (by omega)).mono ?_
    rintro e w2 ⟨k, rfl, k0, k1, hs2, hg2⟩
    obtain ⟨R, rfl⟩ : ∃ R : Nat, k = R := ⟨k.toNat, by omega⟩
    obtain ⟨x, hx0, hx1, hx⟩ := pick_at [0, 1, 1000000, 1000001, 500000, 500001] R (by simp; omega) (by intro x hx; simp at hx; omega)
    have hcell : w2.cell? ⟨w1.heap.size, R, none⟩ = some (.int .i64 x) := (cell_new hg2 hlt R).trans hx
    have HG : Hid (w.grownBy w2 (some S)) := grown_trans HG1.out (grown_over hg2)
    clear hg2 hx
    go_wp2_with fail
    go_ret
    exact ⟨x, rfl, hx0, hx1, hs2, HG.out⟩
  have t1 : (r == 1) = false := beq_eq_false_iff_ne.2 c1
  clear c0 c1
  go_wp2_with fail
  refine (draw_n hs1 120000 (by omega) (by omega)).mono ?_
  rintro e w2 ⟨x, rfl, x0, x1, hs2, hg2⟩
  go_wp2_with fail
  go_ret
  exact ⟨_, rfl, by omega, by omega, hs2, grown_trans HG1.out hg2⟩



end Go.Proofs.YtgkfjopbcphnhaaDoor.Draw
