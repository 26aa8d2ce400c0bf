/- The law that holds impl.GetText against spec.GetText: what its call does. -/
import Derived.Test.YtncloiipndmmcagText
namespace Go.Proofs.Ytncloiipndmmcag
open Go.RowKit

set_option maxRecDepth 100000 in
set_option maxHeartbeats 4000000 in
/-- eqTextOut of a text's outcome and itself. -/
theorem eq_text (t : ByteArray) (p c : Int) (w : World) :
    Calls Try.prog 18 #[textV (t, p, c), textV (t, p, c)] w fun e w' => e = .returned (.bool true) ∧ Below w.heap.size w w' := by
  simp only [textV]
  go_enter Try.func18, Try.ntmps18
  go_wp2
  go_ret
  exact ⟨rfl, ((Below.refl _ _).alloc (Nat.le_refl _) _).alloc (by simp) _⟩

set_option maxHeartbeats 400000 in
theorem law_getText (s : ByteArray) (hs : s.size ≤ maxLen) (a : Int) (ha : (Lit.int .i64 a).wf = true) (w : World) :
    Calls Try.prog 6 #[.string s, .int .i64 a] w fun e w' => e = .returned (.bool true) ∧ Below w.heap.size w w' := by
  have hx : -9223372036854775808 ≤ a ∧ a ≤ 9223372036854775807 := by simpa [Lit.wf, IntKind.min, IntKind.max, IntKind.signed, IntKind.bits] using ha
  obtain ⟨h0, h1⟩ := hx
  have hs' := hs
  unfold maxLen at hs'
  by_cases h : 1048576 < (s.size : Int)
  · go_enter Try.func6, Try.ntmps6
    go_wp2_with fail
    go_ret
    exact ⟨rfl, Below.refl _ _⟩
  · go_enter Try.func6, Try.ntmps6
    go_wp2_with fail
    have H1 := spec_getText s a w hs h0 h1
    have H2 := fun w => impl_getText s a w hs h0 h1
    obtain ⟨⟨n, p, c⟩, hRR⟩ : ∃ R, R = textB s a := ⟨_, rfl⟩
    rw [← hRR] at H1
    simp only [← hRR] at H2
    clear hRR
    refine H1.mono ?_
    rintro e w1 ⟨rfl, hb1⟩
    clear H1
    simp only [textV]
    go_wp2_with fail
    refine (H2 _).mono ?_
    rintro e w2 ⟨rfl, hb2⟩
    clear H2
    simp only [textV]
    have hz2 : w1.heap.size + 1 ≤ w2.heap.size := by have := hb2.size; simp at this; omega
    have hc0 : ∀ o, (w2.alloc o).cell? ⟨w1.heap.size, 0, none⟩ = some (.string n) := fun o => by
      rw [World.cell?_alloc_past _ _ _ (by omega), hb2.cell (by simp)]; simp
    have hc1 : ∀ o, (w2.alloc o).cell? ⟨w1.heap.size, 1, none⟩ = some (.int .i64 p) := fun o => by
      rw [World.cell?_alloc_past _ _ _ (by omega), hb2.cell (by simp)]; simp
    have hc2 : ∀ o, (w2.alloc o).cell? ⟨w1.heap.size, 2, none⟩ = some (.int .i64 c) := fun o => by
      rw [World.cell?_alloc_past _ _ _ (by omega), hb2.cell (by simp)]; simp
    go_wp2_with fail
    refine (eq_text n p c _).mono ?_
    rintro e w3 ⟨rfl, hb3⟩
    have hb : Below w.heap.size w w3 := by
      have hs1 := hb1.size
      exact (((hb1.alloc hs1 _).trans (hb2.mono (by simp; omega))).alloc (by omega) _).trans (hb3.mono (by simp; omega))
    clear hb1 hb2 hb3 hc0 hc1 hc2
    go_wp2_with fail
    go_ret
    exact ⟨rfl, hb⟩
end Go.Proofs.Ytncloiipndmmcag
