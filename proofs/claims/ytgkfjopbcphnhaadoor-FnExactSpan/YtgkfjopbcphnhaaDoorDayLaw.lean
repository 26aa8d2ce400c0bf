/- The laws that hold DayOf, DateOf, DayAdd and Span against their models. -/
import Derived.Test.YtgkfjopbcphnhaaDoorDayAddI
import Derived.Test.YtgkfjopbcphnhaaDoorSpan
namespace Go.Proofs.YtgkfjopbcphnhaaDoor
open Go.RowKit

set_option maxRecDepth 100000 in
set_option maxHeartbeats 4000000 in
theorem eq_day (n c : Int) (w : World) :
    Calls Tryd.prog 28 #[.agg #[.int .i64 n, .int .i64 c], .agg #[.int .i64 n, .int .i64 c]] w fun e w' => e = .returned (.bool true) ∧ Below w.heap.size w w' := by
  go_enter Tryd.func28, Tryd.ntmps28
  go_wp2
  go_ret
  exact ⟨rfl, ((Below.refl _ _).alloc (Nat.le_refl _) _).alloc (by simp) _⟩
set_option maxRecDepth 100000 in
set_option maxHeartbeats 1000000 in
theorem law_span (a : Int) (_ha : (Lit.int .i64 a).wf = true) (b : Int) (_hb : (Lit.int .i64 b).wf = true) (c : Int) (_hc : (Lit.int .i64 c).wf = true) (w : World) (hM : Mon w) (hL : Lay w) :
    Calls Tryd.prog 6 #[.int .i64 a, .int .i64 b, .int .i64 c] w fun e w' => e = .returned (.bool true) ∧ Below w.heap.size w w' := by
  have H1 := fun w => spec_span a b c w
  have H2 := fun w hM hL => impl_Span a b c w hM hL
  generalize spanB a b c = r at *
  have HL : Hid (Lay w) := hL
  have HM : Hid (Mon w) := hM
  clear hL hM
  have H1 : Hid (∀ w, Calls Tryd.prog 27 #[.int .i64 a, .int .i64 b, .int .i64 c] w fun e w' => e = .returned (moneyV r) ∧ Below w.heap.size w w') := H1
  have H2 : Hid (∀ w, Mon w → Lay w → Calls Tryd.prog 16 #[.int .i64 a, .int .i64 b, .int .i64 c] w fun e w' => e = .returned (moneyV r) ∧ Below w.heap.size w w') := H2
  obtain ⟨n, c'⟩ := r
  go_enter Tryd.func6, Tryd.ntmps6
  go_wp2_with fail
  refine (H1.out _).mono ?_
  rintro e w1 ⟨rfl, hb1⟩
  simp only [moneyV]
  go_wp2_with fail
  refine (H2.out _ (by exact HM.out.below (hb1.alloc hb1.size _)) (by exact HL.out.below (hb1.alloc hb1.size _))).mono ?_
  rintro e w2 ⟨rfl, hb2⟩
  simp only [moneyV]
  have hz2 : w1.heap.size + 1 ≤ w2.heap.size := by have := hb2.size; simp at this; omega
  have hc0 : ∀ o, (w2.alloc o).cell? ⟨w1.heap.size, 0, none⟩ = some (.int .i64 n) := fun o => by
    rw [World.cell?_alloc_past _ _ _ (by omega), hb2.cell (by simp)]; simp
  have hc1 : ∀ o, (w2.alloc o).cell? ⟨w1.heap.size, 1, none⟩ = some (.int .i64 c') := fun o => by
    rw [World.cell?_alloc_past _ _ _ (by omega), hb2.cell (by simp)]; simp
  go_wp2_with fail
  refine (eq_day n c' _).mono ?_
  rintro e w3 ⟨rfl, hb3⟩
  have hb : Below w.heap.size w w3 := by
    have hs1 := hb1.size
    exact (((hb1.alloc hs1 _).trans (hb2.mono (by simp; omega))).alloc (by omega) _).trans (hb3.mono (by simp; omega))
  clear hb1 hb2 hb3 hc0 hc1
  go_wp2_with fail
  go_ret
  exact ⟨rfl, hb⟩

end Go.Proofs.YtgkfjopbcphnhaaDoor
