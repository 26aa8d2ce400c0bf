/- The law that holds Interest against its model. -/
import Derived.Test.YtgkfjopbcphnhaaDoorIntS
namespace Go.Proofs.YtgkfjopbcphnhaaDoor
open Go.RowKit

set_option maxHeartbeats 1000000 in
theorem law_interest (a : Int) (_ha : (Lit.int .i64 a).wf = true) (b : Int) (_hb : (Lit.int .i64 b).wf = true) (c : Int) (_hc : (Lit.int .i64 c).wf = true) (d : Int) (_hd : (Lit.int .i64 d).wf = true) (f : Int) (_hf : (Lit.int .i64 f).wf = true) (w : World) (hM : Mon w) (hL : Lay w) :
    Calls Tryd.prog 7 #[.int .i64 a, .int .i64 b, .int .i64 c, .int .i64 d, .int .i64 f] w fun e w' => e = .returned (.bool true) ∧ Below w.heap.size w w' := by
  have H1 := fun w => spec_interest a b c d f w
  have H2 := fun w hM hL => impl_Interest a b c d f w hM hL
  generalize interestB a b c d f = r at *
  have HL : Hid (Lay w) := hL
  have HM : Hid (Mon w) := hM
  clear hL hM
  have H1 : Hid (∀ w, Calls Tryd.prog 14 #[.int .i64 a, .int .i64 b, .int .i64 c, .int .i64 d, .int .i64 f] w fun e w' => e = .returned (moneyV r) ∧ Below w.heap.size w w') := H1
  have H2 : Hid (∀ w, Mon w → Lay w → Calls Tryd.prog 13 #[.int .i64 a, .int .i64 b, .int .i64 c, .int .i64 d, .int .i64 f] w fun e w' => e = .returned (moneyV r) ∧ Below w.heap.size w w') := H2
  obtain ⟨n, c'⟩ := r
  go_enter Tryd.func7, Tryd.ntmps7
  go_wp2_with fail
  refine (H1.out _).mono ?_
  rintro e w1 ⟨rfl, hb1⟩
  simp only [moneyV]
  go_wp2_with fail
  refine (H2.out _ (by exact HM.out.below (hb1.alloc hb1.size _)) (by exact HL.out.below (hb1.alloc hb1.size _))).mono ?_
  rintro e w2 ⟨rfl, hb2⟩
  simp only [moneyV]
  have hz2 : w1.heap.size + 1 ≤ w2.heap.size := by have := hb2.size; simp at this; omega
  have hc0 : ∀ o, (w2.alloc o).cell? ⟨w1.heap.size, 0, none⟩ = some (.int .i64 n) := fun o => by
    rw [World.cell?_alloc_past _ _ _ (by omega), hb2.cell (by simp)]; simp
  have hc1 : ∀ o, (w2.alloc o).cell? ⟨w1.heap.size, 1, none⟩ = some (.int .i64 c') := fun o => by
    rw [World.cell?_alloc_past _ _ _ (by omega), hb2.cell (by simp)]; simp
  go_wp2_with fail
  refine (eq_money n c' _).mono ?_
  rintro e w3 ⟨rfl, hb3⟩
  have hb : Below w.heap.size w w3 := by
    have hs1 := hb1.size
    exact (((hb1.alloc hs1 _).trans (hb2.mono (by simp; omega))).alloc (by omega) _).trans (hb3.mono (by simp; omega))
  clear hb1 hb2 hb3 hc0 hc1
  go_wp2_with fail
  go_ret
  exact ⟨rfl, hb⟩

end Go.Proofs.YtgkfjopbcphnhaaDoor
