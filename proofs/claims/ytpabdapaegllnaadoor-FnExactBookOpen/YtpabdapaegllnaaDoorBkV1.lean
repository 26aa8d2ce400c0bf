/- Books marked. -/
import Derived.Test.YtpabdapaegllnaaDoorBkV0
namespace Go.Proofs.YtpabdapaegllnaaDoor
open Go.RowKit
open Go.Proofs.YtpabdapaegllnaaDoor.Draw

set_option maxRecDepth 100000 in
set_option maxHeartbeats 8000000 in
theorem mark_book (a : Option Addr) (n c : Nat) (b : Option Addr) (m d : Nat) (F G : Nat → Value) (hn : n ≤ 1048576) (hm : m ≤ 1048576) (w : World) (h : OwnR w a n 3 F) (h' : OwnR w b m 1 G) (la : ∀ k, a.map Addr.block = some k → k < w.heap.size) (lb : ∀ k, b.map Addr.block = some k → k < w.heap.size) (hne : ∀ k, a.map Addr.block = some k → b.map Addr.block = some k → False) :
    Calls Tryd.prog 23 #[.agg #[.slice a n c, .slice b m d], .int .i64 1] w fun e w' => e = .returned (.int .i64 ((1 + n * 3 + m : Nat) : Int)) ∧ OwnR w' a n 3 (mkLn 1) ∧ OwnR w' b m 1 (mkT (1 + n * 3)) ∧ Kb w w' (a.map Addr.block) (b.map Addr.block) := by
  have hal : Below w.heap.size w (w.alloc (.cells #[.slice a n c, .slice b m d] 26)) := (Below.refl _ _).alloc (Nat.le_refl _) _
  have HAL : Hid (Below w.heap.size w (w.alloc (.cells #[.slice a n c, .slice b m d] 26))) := hal
  have HA0 : Hid (OwnR (w.alloc (.cells #[.slice a n c, .slice b m d] 26)) a n 3 F) := h.below hal
  have HB0 : Hid (OwnR (w.alloc (.cells #[.slice a n c, .slice b m d] 26)) b m 1 G) := h'.below hal
  have HLA : Hid (∀ k, a.map Addr.block = some k → k < w.heap.size) := la
  have HNE : Hid (∀ k, a.map Addr.block = some k → b.map Addr.block = some k → False) := hne
  have HLB : Hid (∀ k, b.map Addr.block = some k → k < w.heap.size) := lb
  clear h h' hal la lb hne
  have hk2 : 1 + n * 3 ≤ 549755813888 := by omega
  obtain ⟨K, hK⟩ : ∃ K : Nat, K = 1 + n * 3 := ⟨_, rfl⟩
  rw [← hK] at hk2 ⊢
  have hK1 : 1 ≤ K := by omega
  have HKd : Hid (K = 1 + n * 3) := hK
  clear hK
  go_enter Tryd.func23, Tryd.ntmps23
  go_wp2_with fail
  refine (mark_lines a n c F hn 1 (by omega) (by omega) _ HA0.out).mono ?_
  rintro e w1 ⟨rfl, hO, hg⟩
  have c1 : w1.cell? ⟨w.heap.size, 1, none⟩ = some (.slice b m d) := (World.cell?_of_block (a := ⟨w.heap.size, 1, none⟩) (hg.block w.heap.size (by simp) (fun e => by have := HLA.out _ e.symm; omega))).trans (by simp)
  have HO1 : Hid (OwnR w1 a n 3 (mkLn 1)) := hO
  have HB1 : Hid (OwnR w1 b m 1 G) := HB0.out.grown hg (fun k e e' => HNE.out k e'.symm e)
  have HG1 : Hid ((w.alloc (.cells #[.slice a n c, .slice b m d] 26)).grownBy w1 (a.map Addr.block)) := hg
  clear hO hg HA0 HB0
  rw [← HKd.out]
  go_wp2_with fail
  refine (mark_texts b m d G hm K hK1 hk2 _ HB1.out).mono ?_
  rintro e w2 ⟨rfl, hO, hg⟩
  have HO2 : Hid (OwnR w2 a n 3 (mkLn 1)) := HO1.out.grown hg (fun k e e' => HNE.out k e e'.symm)
  have HP2 : Hid (OwnR w2 b m 1 (mkT K)) := hO
  have HK2 : Hid (Kb w w2 (a.map Addr.block) (b.map Addr.block)) := Kb.prev HAL.out (Kb.of HG1.out hg)
  clear hO hg HO1 HB1 HG1 c1
  go_wp2_with fail
  go_ret
  exact ⟨ret_int (by omega), HO2.out, HP2.out, HK2.out⟩
end Go.Proofs.YtpabdapaegllnaaDoor
