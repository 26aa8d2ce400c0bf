/- The laws that hold LoanRight, LoanLeft and Instalment against their models. -/
import Derived.Test.YtgkfjopbcphnhaaDoorPlanIn
namespace Go.Proofs.YtgkfjopbcphnhaaDoor
open Go.RowKit

/-- A call's first own block, its boxed loan. -/
structure One (w W : World) (cs : Array Value) : Prop where
  box : ∀ j, W.cell? ⟨w.heap.size, j, none⟩ = cs[j]?
  size : w.heap.size + 1 ≤ W.heap.size
  bel : Below w.heap.size w W
theorem one_new (w : World) (cs : Array Value) (t : TypeId) : One w (w.alloc (.cells cs t)) cs := ⟨fun j => cell_new_at rfl j, by simp, (Below.refl _ _).alloc (Nat.le_refl _) _⟩
theorem One.next {w W W' : World} {cs : Array Value} (h : One w W cs) (hb : Below W.heap.size W W') : One w W' cs :=
  ⟨fun j => (hb.cell (p := ⟨w.heap.size, j, none⟩) (by have := h.size; simp; omega)).trans (h.box j), Nat.le_trans h.size hb.size, h.bel.trans (hb.mono h.bel.size)⟩
theorem One.alloc {w W : World} {cs : Array Value} (h : One w W cs) (o : Obj) : One w (W.alloc o) cs := h.next ((Below.refl _ _).alloc (Nat.le_refl _) _)

set_option maxRecDepth 100000 in
set_option maxHeartbeats 4000000 in
theorem to_loan (p r b s t : Int) (w : World) :
    Calls Tryd.prog 30 #[.agg #[.int .i64 p, .int .i64 r, .int .i64 b, .int .i64 s, .int .i64 t]] w fun e w' => e = .returned (.agg #[.int .i64 p, .int .i64 r, .int .i64 b, .int .i64 s, .int .i64 t]) ∧ Below w.heap.size w w' := by
  go_enter Tryd.func30, Tryd.ntmps30
  go_wp2_with fail
  refine bodyPost_ret (v := .agg #[.int .i64 p, .int .i64 r, .int .i64 b, .int .i64 s, .int .i64 t]) ?_ rfl ⟨rfl, ?_⟩
  · simp [results, Tryd.results30, go_sem]
  · exact (((Below.refl _ _).alloc (Nat.le_refl _) _).alloc (by simp) _).alloc (by simp; omega) _

set_option maxRecDepth 100000 in
set_option maxHeartbeats 4000000 in
theorem law_loanRight (p r b s t : Int) (w : World) (hM : Mon w) :
    Calls Tryd.prog 8 #[.agg #[.int .i64 p, .int .i64 r, .int .i64 b, .int .i64 s, .int .i64 t]] w fun e w' => e = .returned (.bool true) ∧ Below w.heap.size w w' := by
  have H1 : Hid (∀ w, Calls Tryd.prog 21 #[.agg #[.int .i64 p, .int .i64 r, .int .i64 b, .int .i64 s, .int .i64 t]] w fun e w' => e = .returned (.bool (loanB p r b s t)) ∧ Below w.heap.size w w') := fun w => spec_loanRight p r b s t w
  have H2 : Hid (∀ w, Mon w → Calls Tryd.prog 20 #[.agg #[.int .i64 p, .int .i64 r, .int .i64 b, .int .i64 s, .int .i64 t]] w fun e w' => e = .returned (.bool (loanB p r b s t)) ∧ Below w.heap.size w w') := fun w h => impl_loanRight p r b s t w h
  have HM : Hid (Mon w) := hM
  generalize loanB p r b s t = x at *
  have hxx : (x != x) = false := by simp
  clear hM
  go_enter Tryd.func8, Tryd.ntmps8
  go_wp2_with fail
  refine (to_loan p r b s t _).mono ?_
  rintro e w1 ⟨rfl, hb1⟩
  have O1 : Hid (One w w1 #[.int .i64 p, .int .i64 r, .int .i64 b, .int .i64 s, .int .i64 t]) := (one_new _ _ _).next hb1
  have c1 := O1.out.box
  clear hb1
  go_wp2_with fail
  refine (H1.out _).mono ?_
  rintro e w2 ⟨rfl, hb2⟩
  have O2 : Hid (One w w2 #[.int .i64 p, .int .i64 r, .int .i64 b, .int .i64 s, .int .i64 t]) := O1.out.next hb2
  have c2 := O2.out.box
  clear hb2 c1
  go_wp2_with fail
  refine (to_loan p r b s t _).mono ?_
  rintro e w3 ⟨rfl, hb3⟩
  have O3 : Hid (One w w3 #[.int .i64 p, .int .i64 r, .int .i64 b, .int .i64 s, .int .i64 t]) := O2.out.next hb3
  have c3 := O3.out.box
  clear hb3
  clear c2 c3
  go_wp2_with fail
  refine (H2.out _ (by exact HM.out.below O3.out.bel)).mono ?_
  rintro e w4 ⟨rfl, hb4⟩
  have O4 : Hid (One w w4 #[.int .i64 p, .int .i64 r, .int .i64 b, .int .i64 s, .int .i64 t]) := O3.out.next hb4
  clear hb4
  go_wp2_with fail
  go_ret
  exact ⟨rfl, O4.out.bel⟩

set_option maxRecDepth 100000 in
set_option maxHeartbeats 4000000 in
theorem law_loanLeft (p r b s t : Int) (pay : Int) (_hp : (Lit.int .i64 pay).wf = true) (w : World) (hM : Mon w) (hL : Lay w) :
    Calls Tryd.prog 9 #[.agg #[.int .i64 p, .int .i64 r, .int .i64 b, .int .i64 s, .int .i64 t], .int .i64 pay] w fun e w' => e = .returned (.bool true) ∧ Below w.heap.size w w' := by
  have H1 : Hid (∀ w, Calls Tryd.prog 31 #[.agg #[.int .i64 p, .int .i64 r, .int .i64 b, .int .i64 s, .int .i64 t], .int .i64 pay] w fun e w' => e = .returned (moneyV (loanLeftB p r b s t pay)) ∧ Below w.heap.size w w') := fun w => spec_loanLeft p r b s t pay w
  have H2 : Hid (∀ w, Mon w → Lay w → Calls Tryd.prog 22 #[.agg #[.int .i64 p, .int .i64 r, .int .i64 b, .int .i64 s, .int .i64 t], .int .i64 pay] w fun e w' => e = .returned (moneyV (loanLeftB p r b s t pay)) ∧ Below w.heap.size w w') := fun w hM hL => impl_loanLeft p r b s t pay w hM hL
  have HM : Hid (Mon w) := hM
  have HL : Hid (Lay w) := hL
  generalize (loanLeftB p r b s t pay) = x at *
  obtain ⟨N, c⟩ := x
  simp only [moneyV] at H1 H2
  clear hM hL
  go_enter Tryd.func9, Tryd.ntmps9
  go_wp2_with fail
  refine (to_loan p r b s t _).mono ?_
  rintro e w1 ⟨rfl, hb1⟩
  have O1 : Hid (One w w1 #[.int .i64 p, .int .i64 r, .int .i64 b, .int .i64 s, .int .i64 t]) := (one_new _ _ _).next hb1
  have c1 := O1.out.box
  clear hb1
  go_wp2_with fail
  refine (H1.out _).mono ?_
  rintro e w2 ⟨rfl, hb2⟩
  have O2 : Hid (One w (w2.alloc (.cells #[.int .i64 N, .int .i64 c] 26)) #[.int .i64 p, .int .i64 r, .int .i64 b, .int .i64 s, .int .i64 t]) := (O1.out.next hb2).alloc _
  have hs2 : w.heap.size < w2.heap.size := by have := (O1.out.next hb2).size; omega
  have c2 := (O1.out.next hb2).box
  clear hb2 c1
  go_wp2_with fail
  refine (to_loan p r b s t _).mono ?_
  rintro e w3 ⟨rfl, hb3⟩
  have O3 : Hid (One w w3 #[.int .i64 p, .int .i64 r, .int .i64 b, .int .i64 s, .int .i64 t]) := O2.out.next hb3
  have d3 : ∀ j, w3.cell? ⟨w2.heap.size, j, none⟩ = (#[.int .i64 N, .int .i64 c] : Array Value)[j]? := fun j => (hb3.cell (p := ⟨w2.heap.size, j, none⟩) (by simp)).trans (cell_new_at rfl j)
  have hs3 : w2.heap.size < w3.heap.size := by have := hb3.size; simp at this; omega
  clear hb3 c2
  go_wp2_with fail
  refine (H2.out _ (by exact HM.out.below O3.out.bel) (by exact HL.out.below O3.out.bel)).mono ?_
  rintro e w4 ⟨rfl, hb4⟩
  have O4 : Hid (One w w4 #[.int .i64 p, .int .i64 r, .int .i64 b, .int .i64 s, .int .i64 t]) := O3.out.next hb4
  have d4 : ∀ j, w4.cell? ⟨w2.heap.size, j, none⟩ = (#[.int .i64 N, .int .i64 c] : Array Value)[j]? := fun j => (hb4.cell (p := ⟨w2.heap.size, j, none⟩) hs3).trans (d3 j)
  have hs4 : w2.heap.size < w4.heap.size := Nat.lt_of_lt_of_le hs3 hb4.size
  clear hb4 d3
  go_wp2_with fail
  refine (eq_money N c _).mono ?_
  rintro e w5 ⟨rfl, hb5⟩
  have HB : Hid (Below w.heap.size w w5) := ((O4.out.alloc _).next hb5).bel
  clear hb5 d4
  go_wp2_with fail
  go_ret
  exact ⟨rfl, HB.out⟩

set_option maxRecDepth 100000 in
set_option maxHeartbeats 4000000 in
theorem law_instalment (p r b s t : Int) (w : World) (hM : Mon w) (hL : Lay w) :
    Calls Tryd.prog 10 #[.agg #[.int .i64 p, .int .i64 r, .int .i64 b, .int .i64 s, .int .i64 t]] w fun e w' => e = .returned (.bool true) ∧ Below w.heap.size w w' := by
  obtain ⟨x0, hx0⟩ := inst_of p r b s t
  have H1 : Hid (∀ w, Calls Tryd.prog 19 #[.agg #[.int .i64 p, .int .i64 r, .int .i64 b, .int .i64 s, .int .i64 t]] w fun e w' => e = .returned (moneyV x0) ∧ Below w.heap.size w w') := fun w => spec_Instalment p r b s t x0 hx0 w
  have H2 : Hid (∀ w, Mon w → Lay w → Calls Tryd.prog 18 #[.agg #[.int .i64 p, .int .i64 r, .int .i64 b, .int .i64 s, .int .i64 t]] w fun e w' => e = .returned (moneyV x0) ∧ Below w.heap.size w w') := fun w hM hL => impl_Instalment p r b s t x0 hx0 w hM hL
  have HM : Hid (Mon w) := hM
  have HL : Hid (Lay w) := hL
  generalize x0 = x at *
  obtain ⟨N, c⟩ := x
  simp only [moneyV] at H1 H2
  clear hM hL
  go_enter Tryd.func10, Tryd.ntmps10
  go_wp2_with fail
  refine (to_loan p r b s t _).mono ?_
  rintro e w1 ⟨rfl, hb1⟩
  have O1 : Hid (One w w1 #[.int .i64 p, .int .i64 r, .int .i64 b, .int .i64 s, .int .i64 t]) := (one_new _ _ _).next hb1
  have c1 := O1.out.box
  clear hb1
  go_wp2_with fail
  refine (H1.out _).mono ?_
  rintro e w2 ⟨rfl, hb2⟩
  have O2 : Hid (One w (w2.alloc (.cells #[.int .i64 N, .int .i64 c] 26)) #[.int .i64 p, .int .i64 r, .int .i64 b, .int .i64 s, .int .i64 t]) := (O1.out.next hb2).alloc _
  have hs2 : w.heap.size < w2.heap.size := by have := (O1.out.next hb2).size; omega
  have c2 := (O1.out.next hb2).box
  clear hb2 c1
  go_wp2_with fail
  refine (to_loan p r b s t _).mono ?_
  rintro e w3 ⟨rfl, hb3⟩
  have O3 : Hid (One w w3 #[.int .i64 p, .int .i64 r, .int .i64 b, .int .i64 s, .int .i64 t]) := O2.out.next hb3
  have d3 : ∀ j, w3.cell? ⟨w2.heap.size, j, none⟩ = (#[.int .i64 N, .int .i64 c] : Array Value)[j]? := fun j => (hb3.cell (p := ⟨w2.heap.size, j, none⟩) (by simp)).trans (cell_new_at rfl j)
  have hs3 : w2.heap.size < w3.heap.size := by have := hb3.size; simp at this; omega
  clear hb3 c2
  go_wp2_with fail
  refine (H2.out _ (by exact HM.out.below O3.out.bel) (by exact HL.out.below O3.out.bel)).mono ?_
  rintro e w4 ⟨rfl, hb4⟩
  have O4 : Hid (One w w4 #[.int .i64 p, .int .i64 r, .int .i64 b, .int .i64 s, .int .i64 t]) := O3.out.next hb4
  have d4 : ∀ j, w4.cell? ⟨w2.heap.size, j, none⟩ = (#[.int .i64 N, .int .i64 c] : Array Value)[j]? := fun j => (hb4.cell (p := ⟨w2.heap.size, j, none⟩) hs3).trans (d3 j)
  have hs4 : w2.heap.size < w4.heap.size := Nat.lt_of_lt_of_le hs3 hb4.size
  clear hb4 d3
  go_wp2_with fail
  refine (eq_money N c _).mono ?_
  rintro e w5 ⟨rfl, hb5⟩
  have HB : Hid (Below w.heap.size w w5) := ((O4.out.alloc _).next hb5).bel
  clear hb5 d4
  go_wp2_with fail
  go_ret
  exact ⟨rfl, HB.out⟩

end Go.Proofs.YtgkfjopbcphnhaaDoor
