/- The law of OpValue. -/
import Derived.Test.YtnkklkbokpeanaaDoorOvI
import Derived.Test.YtnkklkbokpeanaaDoorOvS
namespace Go.Proofs.YtnkklkbokpeanaaDoor
open Go.RowKit

set_option maxRecDepth 100000 in
set_option maxHeartbeats 8000000 in
theorem law_opValue (s : ByteArray) (hs : s.size ≤ maxLen) (a : Int) (_ha : (Lit.int .i64 a).wf = true) (b : Int) (_hb : (Lit.int .i64 b).wf = true) (w : World) (hL : Lay w) :
    Calls Tryd.prog 6 #[.string s, .int .i64 a, .int .i64 b] w fun e w' => e = .returned (.bool true) ∧ Below w.heap.size w w' := by
  clear _ha _hb
  unfold maxLen at hs
  by_cases hl : s.size ≤ 1048576
  rotate_left
  · have q0 : decide (1048576 < s.size) = true := by simp; omega
    have q1 : decide ((1048576 : Int) < (s.size : Int)) = true := by simp; omega
    go_enter Tryd.func6, Tryd.ntmps6
    go_wp2_with fail
    go_ret
    exact ⟨rfl, Below.refl _ _⟩
  have q0 : decide (1048576 < s.size) = false := by simp; omega
  have q1 : decide ((1048576 : Int) < (s.size : Int)) = false := by simp; omega
  have H1 : Hid (∀ w, Calls Tryd.prog 9 #[.string s, .int .i64 a, .int .i64 b] w fun e w' => e = .returned (moneyV (opV s a b)) ∧ Below w.heap.size w w') := fun w => spec_opV s a b hl w
  have H2 : Hid (∀ w, Lay w → Calls Tryd.prog 8 #[.string s, .int .i64 a, .int .i64 b] w fun e w' => e = .returned (moneyV (opV s a b)) ∧ Below w.heap.size w w') := fun w h => impl_opV s a b hl w h
  generalize opV s a b = r at *
  have HL : Hid (Lay w) := hL
  clear hL
  obtain ⟨n, c⟩ := r
  go_enter Tryd.func6, Tryd.ntmps6
  go_wp2_with fail
  refine (H1.out _).mono ?_
  rintro e w1 ⟨rfl, hb1⟩
  simp only [moneyV]
  go_wp2_with fail
  refine (H2.out _ (by exact HL.out.below (hb1.alloc hb1.size _))).mono ?_
  rintro e w2 ⟨rfl, hb2⟩
  simp only [moneyV]
  have hz2 : w1.heap.size + 1 ≤ w2.heap.size := by have := hb2.size; simp at this; omega
  have hc0 : ∀ o, (w2.alloc o).cell? ⟨w1.heap.size, 0, none⟩ = some (.int .i64 n) := fun o => by
    rw [World.cell?_alloc_past _ _ _ (by omega), hb2.cell (by simp)]; simp
  have hc1 : ∀ o, (w2.alloc o).cell? ⟨w1.heap.size, 1, none⟩ = some (.int .i64 c) := fun o => by
    rw [World.cell?_alloc_past _ _ _ (by omega), hb2.cell (by simp)]; simp
  go_wp2_with fail
  refine (eq_money n c _).mono ?_
  rintro e w3 ⟨rfl, hb3⟩
  have hb : Below w.heap.size w w3 := by
    have hs1 := hb1.size
    exact (((hb1.alloc hs1 _).trans (hb2.mono (by simp; omega))).alloc (by omega) _).trans (hb3.mono (by simp; omega))
  clear hb1 hb2 hb3 hc0 hc1
  go_wp2_with fail
  go_ret
  exact ⟨rfl, hb⟩
end Go.Proofs.YtnkklkbokpeanaaDoor
