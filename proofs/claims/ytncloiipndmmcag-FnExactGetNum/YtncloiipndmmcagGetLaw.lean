/- impl.GetNum, and the law that holds it against spec.GetNum: what each call does. -/
import Derived.Test.YtncloiipndmmcagRead
namespace Go.Proofs.Ytncloiipndmmcag
open Go.RowKit

theorem bcell {W w1 : World} (hb : Below W.heap.size W w1) : (∀ b o, b < W.heap.size → w1.cell? ⟨b, o, none⟩ = W.cell? ⟨b, o, none⟩) ∧ (∀ b o, b < W.heap.size → w1.frozen? ⟨b, o, none⟩ = W.frozen? ⟨b, o, none⟩) :=
  ⟨fun b o h => hb.cell (p := ⟨b, o, none⟩) h, fun b o h => hb.frozen (p := ⟨b, o, none⟩) h⟩

set_option maxRecDepth 100000 in
set_option maxHeartbeats 4000000 in
theorem impl_get (s : ByteArray) (a : Int) (w : World) (hs : s.size ≤ maxLen) (h0 : -9223372036854775808 ≤ a) (h1 : a ≤ 9223372036854775807) :
    Calls Try.prog 12 #[.string s, .int .i64 a] w fun e w' => e = .returned (numV (getB s a)) ∧ Below w.heap.size w w' := by
  unfold maxLen at hs
  by_cases hsz : s.size ≤ 20000
  · have b1 : decide (20000 < (s.size : Int)) = false := by simp; omega
    by_cases hneg : a < 0
    · go_enter Try.func12, Try.ntmps12
      go_wp2_with fail
      refine bodyPost_ret (v := numV (getB s a)) ?_ rfl ⟨rfl, (Below.refl _ _).alloc (Nat.le_refl _) _⟩
      simp [results, Try.results12, go_sem]
      simp [getB, numV, hsz, hneg]
    · obtain ⟨A, rfl⟩ : ∃ A : Nat, a = A := ⟨a.toNat, by omega⟩
      rw [getB_nat s A hsz]
      obtain ⟨⟨n, p, c⟩, hRR⟩ : ∃ R, R = getF s A 10 0 0 := ⟨_, rfl⟩
      have hrd := impl_read s A
      rw [← hRR] at hrd ⊢
      clear hRR
      go_enter Try.func12, Try.ntmps12
      go_wp2_with fail
      refine (hrd _ hsz h1).mono ?_
      rintro e w' ⟨rfl, hb⟩
      clear hrd
      simp only [numV]
      obtain ⟨hc, hf⟩ := bcell hb
      go_wp2_with fail
      refine bodyPost_ret (v := numV (n, p, c)) ?_ rfl ⟨rfl, ?_⟩
      · simp [results, Try.results12, go_sem, hc, numV]
      · exact (((((Below.refl w.heap.size w).alloc (Nat.le_refl _) _).trans (hb.mono (by simp))).setCell (Nat.le_refl _) _).setCell (Nat.le_refl _) _).setCell (Nat.le_refl _) _
  · have b1 : decide (20000 < (s.size : Int)) = true := by simp; omega
    go_enter Try.func12, Try.ntmps12
    go_wp2_with fail
    refine bodyPost_ret (v := numV (getB s a)) ?_ rfl ⟨rfl, (Below.refl _ _).alloc (Nat.le_refl _) _⟩
    simp [results, Try.results12, go_sem]
    simp [getB, numV, hsz]

set_option maxRecDepth 100000 in
set_option maxHeartbeats 4000000 in
/-- eqNumOut of a number's outcome and itself. -/
theorem eq_num (n p c : Int) (w : World) :
    Calls Try.prog 13 #[numV (n, p, c), numV (n, p, c)] w fun e w' => e = .returned (.bool true) ∧ Below w.heap.size w w' := by
  simp only [numV]
  go_enter Try.func13, Try.ntmps13
  go_wp2
  go_ret
  exact ⟨rfl, ((Below.refl _ _).alloc (Nat.le_refl _) _).alloc (by simp) _⟩

set_option maxHeartbeats 400000 in
theorem law_get (s : ByteArray) (hs : s.size ≤ maxLen) (a : Int) (ha : (Lit.int .i64 a).wf = true) (w : World) :
    Calls Try.prog 4 #[.string s, .int .i64 a] w fun e w' => e = .returned (.bool true) ∧ Below w.heap.size w w' := by
  have hx : -9223372036854775808 ≤ a ∧ a ≤ 9223372036854775807 := by simpa [Lit.wf, IntKind.min, IntKind.max, IntKind.signed, IntKind.bits] using ha
  obtain ⟨h0, h1⟩ := hx
  have hs' := hs
  unfold maxLen at hs'
  by_cases h : 1048576 < (s.size : Int)
  · go_enter Try.func4, Try.ntmps4
    go_wp2_with fail
    go_ret
    exact ⟨rfl, Below.refl _ _⟩
  · go_enter Try.func4, Try.ntmps4
    go_wp2_with fail
    have H1 := spec_get s a w hs h0 h1
    have H2 := fun w => impl_get s a w hs h0 h1
    obtain ⟨⟨n, p, c⟩, hRR⟩ : ∃ R, R = getB s a := ⟨_, rfl⟩
    rw [← hRR] at H1
    simp only [← hRR] at H2
    clear hRR
    refine H1.mono ?_
    rintro e w1 ⟨rfl, hb1⟩
    clear H1
    simp only [numV]
    go_wp2_with fail
    refine (H2 _).mono ?_
    rintro e w2 ⟨rfl, hb2⟩
    clear H2
    simp only [numV]
    have hz2 : w1.heap.size + 1 ≤ w2.heap.size := by have := hb2.size; simp at this; omega
    have hc0 : ∀ o, (w2.alloc o).cell? ⟨w1.heap.size, 0, none⟩ = some (.int .i64 n) := fun o => by
      rw [World.cell?_alloc_past _ _ _ (by omega), hb2.cell (by simp)]; simp
    have hc1 : ∀ o, (w2.alloc o).cell? ⟨w1.heap.size, 1, none⟩ = some (.int .i64 p) := fun o => by
      rw [World.cell?_alloc_past _ _ _ (by omega), hb2.cell (by simp)]; simp
    have hc2 : ∀ o, (w2.alloc o).cell? ⟨w1.heap.size, 2, none⟩ = some (.int .i64 c) := fun o => by
      rw [World.cell?_alloc_past _ _ _ (by omega), hb2.cell (by simp)]; simp
    go_wp2_with fail
    refine (eq_num n p c _).mono ?_
    rintro e w3 ⟨rfl, hb3⟩
    have hb : Below w.heap.size w w3 := by
      have hs1 := hb1.size
      exact (((hb1.alloc hs1 _).trans (hb2.mono (by simp; omega))).alloc (by omega) _).trans (hb3.mono (by simp; omega))
    clear hb1 hb2 hb3 hc0 hc1 hc2
    go_wp2_with fail
    go_ret
    exact ⟨rfl, hb⟩
end Go.Proofs.Ytncloiipndmmcag
