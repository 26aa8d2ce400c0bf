/- Marked books looked at again. -/
import Derived.Test.YtpabdapaegllnaaDoorBkV0
namespace Go.Proofs.YtpabdapaegllnaaDoor
open Go.RowKit
open Go.Proofs.YtpabdapaegllnaaDoor.Draw

set_option maxRecDepth 100000 in
set_option maxHeartbeats 8000000 in
theorem held_book (a : Option Addr) (n c : Nat) (b : Option Addr) (m d : Nat) (hn : n ≤ 1048576) (hm : m ≤ 1048576) (w : World) (h : OwnR w a n 3 (mkLn 1)) (h' : OwnR w b m 1 (mkT (1 + n * 3))) :
    Calls Tryd.prog 59 #[.agg #[.slice a n c, .slice b m d], .int .i64 1] w fun e w' => e = .returned (.int .i64 ((1 + n * 3 + m : Nat) : Int)) ∧ Below w.heap.size w w' := by
  have hal : Below w.heap.size w (w.alloc (.cells #[.slice a n c, .slice b m d] 26)) := (Below.refl _ _).alloc (Nat.le_refl _) _
  have HAL : Hid (Below w.heap.size w (w.alloc (.cells #[.slice a n c, .slice b m d] 26))) := hal
  have HA0 : Hid (OwnR (w.alloc (.cells #[.slice a n c, .slice b m d] 26)) a n 3 (mkLn 1)) := h.below hal
  have HB0 : Hid (OwnR (w.alloc (.cells #[.slice a n c, .slice b m d] 26)) b m 1 (mkT (1 + n * 3))) := h'.below hal
  clear h h' hal
  have hk2 : 1 + n * 3 ≤ 549755813888 := by omega
  obtain ⟨K, hK⟩ : ∃ K : Nat, K = 1 + n * 3 := ⟨_, rfl⟩
  rw [← hK] at hk2 HB0 ⊢
  have hK1 : 1 ≤ K := by omega
  have HKd : Hid (K = 1 + n * 3) := hK
  clear hK
  go_enter Tryd.func59, Tryd.ntmps59
  go_wp2_with fail
  refine (held_lines a n c hn 1 (by omega) (by omega) _ HA0.out).mono ?_
  rintro e w1 ⟨rfl, hb⟩
  have c1 : w1.cell? ⟨w.heap.size, 1, none⟩ = some (.slice b m d) := (hb.cell (p := ⟨w.heap.size, 1, none⟩) (by simp)).trans (by simp)
  have HB1 : Hid (OwnR w1 b m 1 (mkT K)) := HB0.out.below hb
  have HL1 : Hid (Below w.heap.size w w1) := HAL.out.trans (hb.mono HAL.out.size)
  clear hb HA0 HB0 HAL
  rw [← HKd.out]
  have q0 : decide ((K : Int) < 0) = false := by simp
  go_wp2_with fail
  refine (held_texts b m d hm K hK1 hk2 _ HB1.out).mono ?_
  rintro e w2 ⟨rfl, hb⟩
  have HL2 : Hid (Below w.heap.size w w2) := HL1.out.trans (hb.mono HL1.out.size)
  clear hb HB1 HL1 c1
  have q1 : decide (((K + m : Nat) : Int) < 0) = false := by simp; omega
  have q1' : decide ((K : Int) + (m : Int) < 0) = false := by simp; omega
  go_wp2_with fail
  go_ret
  exact ⟨ret_int (by omega), HL2.out⟩
end Go.Proofs.YtpabdapaegllnaaDoor
