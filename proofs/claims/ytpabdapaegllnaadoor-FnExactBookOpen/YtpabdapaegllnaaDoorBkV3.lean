/- Books handed out, compared. -/
import Derived.Test.YtpabdapaegllnaaDoorBkV0
namespace Go.Proofs.YtpabdapaegllnaaDoor
open Go.RowKit
open Go.Proofs.YtpabdapaegllnaaDoor.Draw

set_option maxRecDepth 100000 in
set_option maxHeartbeats 8000000 in
theorem eq_bookOut (a a' b b' : Option Addr) (n m c1 c2 c3 c4 : Nat) (L : Nat → Ln) (I : Nat → Tx) (p cd : Int) (hn : n ≤ 1048576) (hm : m ≤ 1048576) (w : World) (h : OwnR w a n 3 (lineF L)) (h' : OwnR w a' n 3 (lineF L)) (hi : OwnR w b m 1 (textF I)) (hi' : OwnR w b' m 1 (textF I)) :
    Calls Tryd.prog 21 #[.agg #[.slice a n c1, .slice b m c2, .int .i64 p, .int .i64 cd], .agg #[.slice a' n c3, .slice b' m c4, .int .i64 p, .int .i64 cd]] w fun e w' => e = .returned (.bool true) ∧ Below w.heap.size w w' := by
  have T0 := two_now w #[.slice a n c1, .slice b m c2, .int .i64 p, .int .i64 cd] #[.slice a' n c3, .slice b' m c4, .int .i64 p, .int .i64 cd] 31 31
  have HT0 : Hid (Both w ((w.alloc (.cells #[.slice a n c1, .slice b m c2, .int .i64 p, .int .i64 cd] 31)).alloc (.cells #[.slice a' n c3, .slice b' m c4, .int .i64 p, .int .i64 cd] 31)) #[.slice a n c1, .slice b m c2, .int .i64 p, .int .i64 cd] #[.slice a' n c3, .slice b' m c4, .int .i64 p, .int .i64 cd]) := T0
  have HEQ : Hid (Calls Tryd.prog 22 _ _ _) := eq_book a a' b b' n m c1 c2 c3 c4 L I hn hm _ (h.below T0.bel).lines (h'.below T0.bel).lines (hi.below T0.bel).texts (hi'.below T0.bel).texts
  have hx : ∀ z : Int, (z != z) = false := fun z => by simp
  clear h h' hi hi' T0
  go_enter Tryd.func21, Tryd.ntmps21
  go_wp2_with fail
  refine HEQ.out.mono ?_
  rintro e w1 ⟨rfl, hb⟩
  have T1 := HT0.out.next hb
  have b2 := T1.box 2
  have b3 := T1.box 3
  have r2 := T1.res 2
  have r3 := T1.res 3
  simp at b2 b3 r2 r3
  have HB1 : Hid (Below w.heap.size w w1) := T1.bel
  clear T1 hb HT0 HEQ
  go_wp2_with fail
  go_ret
  exact ⟨rfl, HB1.out⟩
end Go.Proofs.YtpabdapaegllnaaDoor
