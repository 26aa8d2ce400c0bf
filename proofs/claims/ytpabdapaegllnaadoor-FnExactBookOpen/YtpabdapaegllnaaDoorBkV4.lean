/- Books handed out, marked and looked at again. -/
import Derived.Test.YtpabdapaegllnaaDoorBkV1
import Derived.Test.YtpabdapaegllnaaDoorBkV2
namespace Go.Proofs.YtpabdapaegllnaaDoor
open Go.RowKit
open Go.Proofs.YtpabdapaegllnaaDoor.Draw

set_option maxRecDepth 100000 in
set_option maxHeartbeats 8000000 in
theorem mark_bookOut (a : Option Addr) (n c : Nat) (b : Option Addr) (m d : Nat) (p cd : Int) (F G : Nat → Value) (hn : n ≤ 1048576) (hm : m ≤ 1048576) (w : World) (h : OwnR w a n 3 F) (h' : OwnR w b m 1 G) (la : ∀ k, a.map Addr.block = some k → k < w.heap.size) (lb : ∀ k, b.map Addr.block = some k → k < w.heap.size) (hne : ∀ k, a.map Addr.block = some k → b.map Addr.block = some k → False) :
    Calls Tryd.prog 24 #[.agg #[.slice a n c, .slice b m d, .int .i64 p, .int .i64 cd], .int .i64 1] w fun e w' => e = .returned (.int .i64 ((1 + n * 3 + m : Nat) : Int)) ∧ OwnR w' a n 3 (mkLn 1) ∧ OwnR w' b m 1 (mkT (1 + n * 3)) ∧ Kb w w' (a.map Addr.block) (b.map Addr.block) := by
  have hal : Below w.heap.size w (w.alloc (.cells #[.slice a n c, .slice b m d, .int .i64 p, .int .i64 cd] 31)) := (Below.refl _ _).alloc (Nat.le_refl _) _
  have HAL : Hid (Below w.heap.size w (w.alloc (.cells #[.slice a n c, .slice b m d, .int .i64 p, .int .i64 cd] 31))) := hal
  have HM : Hid (Calls Tryd.prog 23 _ _ _) := mark_book a n c b m d F G hn hm _ (h.below hal) (h'.below hal) (fun k e => by have := la k e; simp; omega) (fun k e => by have := lb k e; simp; omega) hne
  clear h h' hal la lb hne
  go_enter Tryd.func24, Tryd.ntmps24
  go_wp2_with fail
  refine HM.out.mono ?_
  rintro e w1 ⟨rfl, hO, hP, hk⟩
  have HO : Hid (OwnR w1 a n 3 (mkLn 1)) := hO
  have HP : Hid (OwnR w1 b m 1 (mkT (1 + n * 3))) := hP
  have HK : Hid (Kb w w1 (a.map Addr.block) (b.map Addr.block)) := Kb.prev HAL.out hk
  clear hO hP hk HM HAL
  go_wp2_with fail
  go_ret
  exact ⟨ret_int (by omega), HO.out, HP.out, HK.out⟩
set_option maxRecDepth 100000 in
set_option maxHeartbeats 8000000 in
theorem held_bookOut (a : Option Addr) (n c : Nat) (b : Option Addr) (m d : Nat) (p cd : Int) (hn : n ≤ 1048576) (hm : m ≤ 1048576) (w : World) (h : OwnR w a n 3 (mkLn 1)) (h' : OwnR w b m 1 (mkT (1 + n * 3))) :
    Calls Tryd.prog 25 #[.agg #[.slice a n c, .slice b m d, .int .i64 p, .int .i64 cd], .int .i64 1] w fun e w' => e = .returned (.int .i64 ((1 + n * 3 + m : Nat) : Int)) ∧ Below w.heap.size w w' := by
  have hal : Below w.heap.size w (w.alloc (.cells #[.slice a n c, .slice b m d, .int .i64 p, .int .i64 cd] 31)) := (Below.refl _ _).alloc (Nat.le_refl _) _
  have HAL : Hid (Below w.heap.size w (w.alloc (.cells #[.slice a n c, .slice b m d, .int .i64 p, .int .i64 cd] 31))) := hal
  have HM : Hid (Calls Tryd.prog 59 _ _ _) := held_book a n c b m d hn hm _ (h.below hal) (h'.below hal)
  clear h h' hal
  obtain ⟨K, hK⟩ : ∃ K : Nat, K = 1 + n * 3 + m := ⟨_, rfl⟩
  rw [← hK] at HM ⊢
  have q0 : decide ((K : Int) < 0) = false := by simp
  clear hK
  go_enter Tryd.func25, Tryd.ntmps25
  go_wp2_with fail
  refine HM.out.mono ?_
  rintro e w1 ⟨rfl, hb⟩
  have HB : Hid (Below w.heap.size w w1) := HAL.out.trans (hb.mono HAL.out.size)
  clear hb HM HAL
  go_wp2_with fail
  go_ret
  exact ⟨rfl, HB.out⟩
end Go.Proofs.YtpabdapaegllnaaDoor
