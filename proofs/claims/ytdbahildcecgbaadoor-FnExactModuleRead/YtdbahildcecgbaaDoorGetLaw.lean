/- impl.GetNum, and the law that holds it against spec.GetNum: what each call does. -/
import Derived.Test.YtdbahildcecgbaaDoorRead
namespace Go.Proofs.YtdbahildcecgbaaDoor.Draw
open Go.RowKit

theorem bcell {W w1 : World} (hb : Below W.heap.size W w1) : (∀ b o, b < W.heap.size → w1.cell? ⟨b, o, none⟩ = W.cell? ⟨b, o, none⟩) ∧ (∀ b o, b < W.heap.size → w1.frozen? ⟨b, o, none⟩ = W.frozen? ⟨b, o, none⟩) :=
  ⟨fun b o h => hb.cell (p := ⟨b, o, none⟩) h, fun b o h => hb.frozen (p := ⟨b, o, none⟩) h⟩

set_option maxRecDepth 100000 in
set_option maxHeartbeats 4000000 in
theorem impl_get (s : ByteArray) (a : Int) (w : World) (hs : s.size ≤ maxLen) (h0 : -9223372036854775808 ≤ a) (h1 : a ≤ 9223372036854775807) :
    Calls Tryd.prog 36 #[.string s, .int .i64 a] w fun e w' => e = .returned (numV (getB s a)) ∧ Below w.heap.size w w' := by
  unfold maxLen at hs
  by_cases hsz : s.size ≤ 20000
  · have b1 : decide (20000 < (s.size : Int)) = false := by simp; omega
    by_cases hneg : a < 0
    · go_enter Tryd.func36, Tryd.ntmps36
      go_wp2_with fail
      refine bodyPost_ret (v := numV (getB s a)) ?_ rfl ⟨rfl, (Below.refl _ _).alloc (Nat.le_refl _) _⟩
      simp [results, Tryd.results36, go_sem]
      simp [getB, numV, hsz, hneg]
    · obtain ⟨A, rfl⟩ : ∃ A : Nat, a = A := ⟨a.toNat, by omega⟩
      rw [getB_nat s A hsz]
      obtain ⟨⟨n, p, c⟩, hRR⟩ : ∃ R, R = getF s A 10 0 0 := ⟨_, rfl⟩
      have hrd := impl_read s A
      rw [← hRR] at hrd ⊢
      clear hRR
      go_enter Tryd.func36, Tryd.ntmps36
      go_wp2_with fail
      refine (hrd _ hsz h1).mono ?_
      rintro e w' ⟨rfl, hb⟩
      clear hrd
      simp only [numV]
      obtain ⟨hc, hf⟩ := bcell hb
      go_wp2_with fail
      refine bodyPost_ret (v := numV (n, p, c)) ?_ rfl ⟨rfl, ?_⟩
      · simp [results, Tryd.results36, go_sem, hc, numV]
      · exact (((((Below.refl w.heap.size w).alloc (Nat.le_refl _) _).trans (hb.mono (by simp))).setCell (Nat.le_refl _) _).setCell (Nat.le_refl _) _).setCell (Nat.le_refl _) _
  · have b1 : decide (20000 < (s.size : Int)) = true := by simp; omega
    go_enter Tryd.func36, Tryd.ntmps36
    go_wp2_with fail
    refine bodyPost_ret (v := numV (getB s a)) ?_ rfl ⟨rfl, (Below.refl _ _).alloc (Nat.le_refl _) _⟩
    simp [results, Tryd.results36, go_sem]
    simp [getB, numV, hsz]



end Go.Proofs.YtdbahildcecgbaaDoor.Draw
