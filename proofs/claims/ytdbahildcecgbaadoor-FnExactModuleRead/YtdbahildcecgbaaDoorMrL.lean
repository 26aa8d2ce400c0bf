/- The laws of ModuleRight and HeightsOf. -/
import Derived.Test.YtdbahildcecgbaaDoorMrS
import Derived.Test.YtdbahildcecgbaaDoorInsL
namespace Go.Proofs.YtdbahildcecgbaaDoor
open Go.RowKit
open Go.Proofs.YtdbahildcecgbaaDoor.Draw

theorem BxM.grownR {w W W' : World} {cs : Array Value} {row : Option Nat} (h : BxM w W cs) (hg : W.grownBy W' row) (hb : ∀ k, row = some k → w.heap.size < k) : BxM w W' cs :=
  ⟨fun j => (World.cell?_of_block (a := ⟨w.heap.size, j, none⟩) (hg.block w.heap.size h.lt (fun e => by have := hb w.heap.size e.symm; omega))).trans (h.cell j), Nat.lt_of_lt_of_le h.lt hg.size, h.bel.grown hg h.bel.size (fun k hk => by have := hb k hk; omega)⟩
theorem BxM.grown {w W W' : World} {cs : Array Value} {g : Nat} (h : BxM w W cs) (hg : W.grownBy W' (some g)) (h1 : w.heap.size ≠ g) (h2 : w.heap.size ≤ g) : BxM w W' cs := h.grownR hg (fun k e => by cases e; omega)
set_option maxRecDepth 100000 in
set_option maxHeartbeats 16000000 in
theorem mark_mod (z0 z1 z2 z3 : Int) (a : Option Addr) (n c : Nat) (F : Nat → Value) (hn : n ≤ 1048576) (k0 : Nat) (hk2 : k0 ≤ 549755813888) (w : World) (h : OwnR w a n 3 F) :
    Calls Tryd.prog 17 #[.agg #[.int .i64 z0, .int .i64 z1, .int .i64 z2, .int .i64 z3, .slice a n c], .int .i64 (k0 : Int)] w fun e w' => e = .returned (.int .i64 ((k0 + n * 3 : Nat) : Int)) ∧ OwnR w' a n 3 (mkI k0) ∧ w.grownBy w' (a.map Addr.block) := by
  have HO : Hid (OwnR w a n 3 F) := h
  have HX : Hid (BxM w (w.alloc (.cells #[.int .i64 z0, .int .i64 z1, .int .i64 z2, .int .i64 z3, .slice a n c] 24)) #[.int .i64 z0, .int .i64 z1, .int .i64 z2, .int .i64 z3, .slice a n c]) := BxM.new _ _ _
  clear h
  go_enter Tryd.func17, Tryd.ntmps17
  go_wp2_with fail
  refine (mark_inss a n c F hn k0 hk2 _ (HO.out.below HX.out.bel)).mono ?_
  rintro e w1 ⟨rfl, hO, hg⟩
  have HO1 : Hid (OwnR w1 a n 3 (mkI k0)) := hO
  have HG1 : Hid (w.grownBy w1 (a.map Addr.block)) := by
    have h0 : w.grownBy (w.alloc (.cells #[.int .i64 z0, .int .i64 z1, .int .i64 z2, .int .i64 z3, .slice a n c] 24)) (a.map Addr.block) := ⟨rfl, rfl, rfl, by simp, fun k hk _ => Below.heap_alloc _ _ _ hk⟩
    exact ⟨hg.os.trans h0.os, hg.tape.trans h0.tape, hg.output.trans h0.output, Nat.le_trans h0.size hg.size, fun k hk hne => (hg.block k (Nat.lt_of_lt_of_le hk h0.size) hne).trans (h0.block k hk hne)⟩
  clear hO hg
  go_wp2_with fail
  go_ret
  exact ⟨rfl, HO1.out, HG1.out⟩
end Go.Proofs.YtdbahildcecgbaaDoor
