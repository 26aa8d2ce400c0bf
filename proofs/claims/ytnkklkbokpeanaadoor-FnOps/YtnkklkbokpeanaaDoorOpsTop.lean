/- The law FnOps: what its call does. -/
import Derived.Test.YtnkklkbokpeanaaDoorOpsM
import Derived.Test.YtnkklkbokpeanaaDoorOvI
import Derived.Test.YtnkklkbokpeanaaDoorOvS
import Derived.Test.YtnkklkbokpeanaaDoorOpI
import Derived.Test.YtnkklkbokpeanaaDoorDrawM
import Derived.Deep.RegionWith
namespace Go.Proofs.YtnkklkbokpeanaaDoor
open Go.RowKit

set_option maxRecDepth 100000 in
set_option maxHeartbeats 8000000 in
/-- One of some texts. -/
theorem draw_pick {w0 : World} {a : Option Addr} {len cap : Nat} {zs : List Int} {w : World} {S : Nat} (hS : Draw.Src w0 a len cap zs w S) (T : Nat) (l : List ByteArray) (h1 : 1 < l.length) (h2 : l.length ≤ 1000) (hT : T ≠ S) (hlt : T < w.heap.size) (hc : ∀ j, w.cell? ⟨T, j, none⟩ = ((l.map Value.string).toArray)[j]?) :
    Calls Tryd.prog 26 #[.pointer (some ⟨S, 0, none⟩), .slice (some ⟨T, 0, none⟩) l.length l.length] w fun e w' => ∃ x, x ∈ l ∧ e = .returned (.string x) ∧ Draw.Src w0 a len cap zs w' S ∧ w.grownBy w' (some S) := by
  have HC : Hid (∀ j, w.cell? ⟨T, j, none⟩ = ((l.map Value.string).toArray)[j]?) := hc
  clear hc
  go_enter Tryd.func26, Tryd.ntmps26
  go_wp2_with fail
  refine (Draw.draw_n hS l.length (by omega) (by omega)).mono ?_
  rintro e w1 ⟨r, rfl, r0, r1, hs1, hg1⟩
  obtain ⟨R, rfl⟩ : ∃ R : Nat, r = R := ⟨r.toNat, by omega⟩
  have hR : R < l.length := by omega
  have hcell : w1.cell? ⟨T, R, none⟩ = some (.string l[R]) := by
    rw [World.cell?_of_block (a := ⟨T, R, none⟩) (hg1.block T hlt (by simpa using hT)), HC.out R]
    simp [hR]
  have HM : Hid (l[R] ∈ l) := List.getElem_mem hR
  generalize l[R] = x at *
  go_wp2_with fail
  go_ret
  exact ⟨x, HM.out, rfl, hs1, hg1⟩
set_option maxRecDepth 100000 in
set_option maxHeartbeats 8000000 in
theorem draw_opValue {w0 : World} {a : Option Addr} {len cap : Nat} {zs : List Int} (hrow : Draw.IsRow .u8 w0 a len cap zs) (hsm : len ≤ 1048576) (w : World) (hb0 : Below w0.heap.size w0 w) :
    Calls Tryd.prog 7 #[.slice a len cap] w fun e w' => ∃ (x : ByteArray) (y z : Int), e = .returned (.tuple #[.string x, .int .i64 y, .int .i64 z]) ∧ x.size ≤ 1048576 ∧ (-9223372036854775808 ≤ y ∧ y ≤ 9223372036854775807) ∧ (-9223372036854775808 ≤ z ∧ z ≤ 9223372036854775807) ∧ Below w0.heap.size w0 w' := by
  go_enter Tryd.func7, Tryd.ntmps7
  go_wp2_with fail
  refine (Draw.draw_source hrow hsm w hb0).mono ?_
  rintro e w1 ⟨S, rfl, hSlo, hs1, hg1⟩
  have hlt1 := hs1.lt
  have hss := hs1.alloc (.cells (([⟨#[43]⟩, ⟨#[45]⟩, ⟨#[42]⟩, ⟨#[60]⟩, ⟨#[60, 61]⟩, ⟨#[61]⟩, ⟨#[97, 110, 100]⟩, ⟨#[111, 114]⟩, ⟨#[]⟩, ⟨#[110, 111, 116]⟩] : List ByteArray).map Value.string).toArray 9)
  have HP := draw_pick hss w1.heap.size [⟨#[43]⟩, ⟨#[45]⟩, ⟨#[42]⟩, ⟨#[60]⟩, ⟨#[60, 61]⟩, ⟨#[61]⟩, ⟨#[97, 110, 100]⟩, ⟨#[111, 114]⟩, ⟨#[]⟩, ⟨#[110, 111, 116]⟩] (by decide) (by decide) (by omega) (by simp) (fun j => World.cell?_alloc_new ..)
  have HP : Hid (Calls Tryd.prog 26 _ _ _) := HP
  clear hss
  go_wp2_with fail
  refine HP.out.mono ?_
  rintro e w2 ⟨x, hx, rfl, hs2, hg2⟩
  have HX : Hid (x.size ≤ 1048576) := by
    show x.size ≤ 1048576
    simp at hx
    rcases hx with rfl | rfl | rfl | rfl | rfl | rfl | rfl | rfl | rfl | rfl <;> decide
  clear hx hg2 hg1 HP hlt1
  go_wp2_with fail
  refine (Draw.draw_one hs2 3 (by omega) (by omega)).mono ?_
  rintro e w3 ⟨b, rfl, hs3, hg3⟩
  cases b with
  | true =>
    go_wp2_with fail
    refine (Draw.draw_n hs3 3 (by omega) (by omega)).mono ?_
    rintro e w4 ⟨y, rfl, y0, y1, hs4, hg4⟩
    go_wp2_with fail
    refine (Draw.draw_n hs4 3 (by omega) (by omega)).mono ?_
    rintro e w5 ⟨z, rfl, z0, z1, hs5, hg5⟩
    go_wp2_with fail
    refine bodyPost_ret (v := .tuple #[.string x, .int .i64 y, .int .i64 z]) ?_ rfl ⟨x, y, z, rfl, HX.out, ⟨by omega, by omega⟩, ⟨by omega, by omega⟩, hs5.below⟩
    simp [results, Tryd.results7, go_sem]
  | false =>
    go_wp2_with fail
    refine (Draw.draw_money hs3).mono ?_
    rintro e w4 ⟨y, rfl, y0, y1, hs4, hg4⟩
    go_wp2_with fail
    refine (Draw.draw_money hs4).mono ?_
    rintro e w5 ⟨z, rfl, z0, z1, hs5, hg5⟩
    go_wp2_with fail
    refine bodyPost_ret (v := .tuple #[.string x, .int .i64 y, .int .i64 z]) ?_ rfl ⟨x, y, z, rfl, HX.out, ⟨y0, y1⟩, ⟨z0, z1⟩, hs5.below⟩
    simp [results, Tryd.results7, go_sem]
set_option maxRecDepth 100000 in
set_option maxHeartbeats 8000000 in
theorem law_ops (a : Option Addr) (len cap : Nat) (zs : List Int) (w : World) (hL : Lay w) (hrow : Draw.IsRow .u8 w a len cap zs) :
    Calls Tryd.prog 3 #[.slice a len cap] w fun e w' => e = .returned (.bool true) ∧ Below w.heap.size w w' := by
  have hlm : len ≤ 9223372036854775807 := by
    rcases hrow with ⟨_, rfl, _⟩ | ⟨x, rfl, hl, hm, _⟩
    · omega
    · unfold maxLen at hm; omega
  have HL : Hid (Lay w) := hL
  clear hL
  by_cases hbig : 1048576 < (len : Int)
  · go_enter Tryd.func3, Tryd.ntmps3
    go_wp2_with fail
    go_ret
    exact ⟨rfl, Below.refl _ _⟩
  go_enter Tryd.func3, Tryd.ntmps3
  go_wp2_with fail
  refine (draw_opValue hrow (by omega) w (Below.refl _ _)).mono ?_
  rintro e w1 ⟨s, y, z, rfl, hsz, _, _, hb1⟩
  have HI : Hid (∀ w, Lay w → Calls Tryd.prog 8 #[.string s, .int .i64 y, .int .i64 z] w fun e w' => e = .returned (moneyV (opV s y z)) ∧ Below w.heap.size w w') := fun w h => impl_opV s y z hsz w h
  have HS : Hid (∀ w, Calls Tryd.prog 9 #[.string s, .int .i64 y, .int .i64 z] w fun e w' => e = .returned (moneyV (opV s y z)) ∧ Below w.heap.size w w') := fun w => spec_opV s y z hsz w
  obtain ⟨n, c, hR⟩ : ∃ n c, opV s y z = (n, c) := ⟨_, _, rfl⟩
  have hfact : c = 0 → rightB n = true ∧ ((opT s 5 5 = 5 ∨ opT s 1 1 = 5) → n = 0 ∨ n = 1) := fun hc => by
    subst hc
    unfold opV at hR
    split at hR
    · simp at hR
    · exact ops_fact hR
  have hzero : c ≠ 0 → n = 0 := fun hc => by
    unfold opV at hR
    split at hR
    · simp at hR; exact hR.1.symm
    · have := opW_zero s y z; rw [hR] at this; exact this hc
  have HF : Hid ((c = 0 → rightB n = true ∧ ((opT s 5 5 = 5 ∨ opT s 1 1 = 5) → n = 0 ∨ n = 1)) ∧ (c ≠ 0 → n = 0)) := ⟨hfact, hzero⟩
  simp only [hR, moneyV] at HI HS
  have HT5 : Hid (∀ W, Calls Tryd.prog 10 #[.string s, .int .i64 5, .int .i64 5] W fun e w' => e = .returned (.int .i64 (opT s 5 5)) ∧ w' = W) := fun W => impl_opT s 5 5 W
  have HT1 : Hid (∀ W, Calls Tryd.prog 10 #[.string s, .int .i64 1, .int .i64 1] W fun e w' => e = .returned (.int .i64 (opT s 1 1)) ∧ w' = W) := fun W => impl_opT s 1 1 W
  generalize opT s 5 5 = t5 at *
  generalize opT s 1 1 = t1 at *
  clear hR hfact hzero
  go_wp2_with fail
  refine (HI.out _ (by exact HL.out.below hb1)).mono ?_
  rintro e w2 ⟨rfl, hb2⟩
  go_wp2_with fail
  go_region_with (go_at_call 9; refine (HS.out _).mono ?_; rintro e w3 ⟨rfl, hb3⟩; obtain ⟨hc3, hf3⟩ := bcell hb3)
  all_goals
    have s2 : w2.heap.size < w3.heap.size := by have := hb3.size; simp at this; omega
    have X0 : w3.cell? ⟨w2.heap.size, 0, none⟩ = some (.int .i64 n) := by rw [hb3.cell (by simp)]; simp
    have X1 : w3.cell? ⟨w2.heap.size, 1, none⟩ = some (.int .i64 c) := by rw [hb3.cell (by simp)]; simp
    have HB3 : Hid (Below w.heap.size w w3) := by
      have z1 := hb1.size
      have z2 := hb2.size
      exact (((hb1.trans (hb2.mono z1)).alloc (by omega) _).drew).trans (hb3.mono (by simp; omega))
    clear hb1 hb2 hb3 hc3 hf3 HI HS
    by_cases c0 : c = 0
    rotate_left
    · have hn := HF.out.2 c0
      subst hn
      have u1 : (c != 0) = true := by simpa using c0
      go_wp2_with fail
      go_ret
      exact ⟨rfl, HB3.out⟩
    obtain ⟨hr, h01⟩ := HF.out.1 c0
    subst c0
    have HR : Hid (rightB n = true) := hr
    by_cases e5 : t5 = 5
    · have v5 : (t5 == 5) = true := by simpa using e5
      have hn := h01 (Or.inl e5)
      clear e5 h01 hr HF
      rcases hn with rfl | rfl
      all_goals
        go_wp2_with fail
        refine (HT5.out _).mono ?_
        rintro e w4 ⟨rfl, rfl⟩
        go_wp2_with fail
        refine (spec_right _ _).mono ?_
        rintro e w5 ⟨rfl, rfl⟩
        rw [HR.out]
        go_wp2_with fail
        go_ret
        exact ⟨rfl, HB3.out⟩
    · have v5 : (t5 == 5) = false := by simpa using e5
      by_cases e1 : t1 = 5
      · have v1 : (t1 == 5) = true := by simpa using e1
        have hn := h01 (Or.inr e1)
        clear e5 e1 h01 hr HF
        rcases hn with rfl | rfl
        all_goals
          go_wp2_with fail
          refine (HT5.out _).mono ?_
          rintro e w4 ⟨rfl, rfl⟩
          go_wp2_with fail
          refine (HT1.out _).mono ?_
          rintro e w6 ⟨rfl, rfl⟩
          go_wp2_with fail
          refine (spec_right _ _).mono ?_
          rintro e w5 ⟨rfl, rfl⟩
          rw [HR.out]
          go_wp2_with fail
          go_ret
          exact ⟨rfl, HB3.out⟩
      · have v1 : (t1 == 5) = false := by simpa using e1
        clear e5 e1 h01 hr HF
        go_wp2_with fail
        refine (HT5.out _).mono ?_
        rintro e w4 ⟨rfl, rfl⟩
        go_wp2_with fail
        refine (HT1.out _).mono ?_
        rintro e w6 ⟨rfl, rfl⟩
        go_wp2_with fail
        refine (spec_right _ _).mono ?_
        rintro e w5 ⟨rfl, rfl⟩
        rw [HR.out]
        go_wp2_with fail
        go_ret
        exact ⟨rfl, HB3.out⟩
end Go.Proofs.YtnkklkbokpeanaaDoor
