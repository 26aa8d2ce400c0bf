/- The law of HookOf. -/
import Derived.Test.YthfjekpmaafhaaaHk2
import Derived.Deep.RegionHeld3
import Derived.Deep.DeepCutAuto
namespace Go.Proofs.Ythfjekpmaafhaaa
open Go.RowKit


theorem hook_small {d : Pd} (hs : d.small) (h : Int) : hookN d h ≤ 1048576 := by
  obtain ⟨_, ⟨n0, _⟩, ⟨n1, _⟩, ⟨n2, _⟩, ⟨n3, _⟩, ⟨n4, _⟩, ⟨n5, _⟩⟩ := hs
  unfold hookN
  split
  · omega
  · split
    · omega
    · split
      · omega
      · omega
set_option maxRecDepth 100000 in
set_option maxHeartbeats 16000000 in
theorem law_hookOf (d : Pd) (r : Pr) (hf : d.fits) (h : Int) (_hh : (Lit.int .i64 h).wf = true) (w : World) (hA : PdAt w d r) :
    Calls Try.prog 5 #[.agg (prodA d r), .int .i64 h] w fun e w' => e = .returned (.bool true) ∧ Below w.heap.size w w' := by
  clear _hh
  obtain ⟨x, z, nc, ns, np, no, ny, nt, C, S, P, O, Y, T⟩ := d
  obtain ⟨ca, sa, pa, oa, ya, ta, cc, cs, cp, co, cy, ct⟩ := r
  have HL : Hid (PdAt w ⟨x, z, nc, ns, np, no, ny, nt, C, S, P, O, Y, T⟩ ⟨ca, sa, pa, oa, ya, ta, cc, cs, cp, co, cy, ct⟩) := hA
  have HZ : Hid (∀ (left : Nat), left ≤ 1048576 → ∀ W, Below w.heap.size w W → Calls Try.prog 8 #[.agg #[.string x, .int .i64 z, .slice ca nc cc, .slice sa ns cs, .slice pa np cp, .slice oa no co, .slice ya ny cy, .slice ta nt ct], .int .i64 (left : Int)] W fun e w' => (e = .returned (.int .i64 (-1)) ∨ ∃ q : Nat, e = .returned (.int .i64 (q : Int)) ∧ q ≤ left ∧ Pd.small ⟨x, z, nc, ns, np, no, ny, nt, C, S, P, O, Y, T⟩) ∧ Below W.heap.size W w') := fun left hl W hW => sz_prod ⟨x, z, nc, ns, np, no, ny, nt, C, S, P, O, Y, T⟩ ⟨ca, sa, pa, oa, ya, ta, cc, cs, cp, co, cy, ct⟩ hf left hl W (HL.out.below hW)
  have HX0 : Hid (Bq8 (w.alloc (.cells #[.string x, .int .i64 z, .slice ca nc cc, .slice sa ns cs, .slice pa np cp, .slice oa no co, .slice ya ny cy, .slice ta nt ct] 27)) w.heap.size #[.string x, .int .i64 z, .slice ca nc cc, .slice sa ns cs, .slice pa np cp, .slice oa no co, .slice ya ny cy, .slice ta nt ct]) := Bq8.new _ _ _
  have HB0 : Hid (Below w.heap.size w (w.alloc (.cells #[.string x, .int .i64 z, .slice ca nc cc, .slice sa ns cs, .slice pa np cp, .slice oa no co, .slice ya ny cy, .slice ta nt ct] 27))) := (Below.refl _ _).alloc (Nat.le_refl _) _
  clear hA hf
  show Calls Try.prog 5 #[.agg #[.string x, .int .i64 z, .slice ca nc cc, .slice sa ns cs, .slice pa np cp, .slice oa no co, .slice ya ny cy, .slice ta nt ct], .int .i64 h] w _
  go_enter Try.func5, Try.ntmps5
  go_wp2_with fail
  refine (HZ.out 1048576 (by omega) _ HB0.out).mono ?_
  rintro e w1 ⟨he, hb⟩
  have HX1 : Hid (Bq8 w1 w.heap.size #[.string x, .int .i64 z, .slice ca nc cc, .slice sa ns cs, .slice pa np cp, .slice oa no co, .slice ya ny cy, .slice ta nt ct]) := HX0.out.below hb
  have HB1 : Hid (Below w.heap.size w w1) := HB0.out.trans (hb.mono HB0.out.size)
  clear hb HX0 HB0
  rcases he with rfl | ⟨q, rfl, hq, hsm⟩
  · have q1 : decide ((-1 : Int) < 0) = true := rfl
    go_wp2_with fail
    go_ret
    exact ⟨rfl, HB1.out⟩
  have q1 : decide ((q : Int) < 0) = false := by simp
  have HS : Hid (Pd.small ⟨x, z, nc, ns, np, no, ny, nt, C, S, P, O, Y, T⟩) := hsm
  clear hsm HZ
  have HTA : Hid (∀ W, Below w.heap.size w W → Calls Try.prog 10 #[.agg #[.string x, .int .i64 z, .slice ca nc cc, .slice sa ns cs, .slice pa np cp, .slice oa no co, .slice ya ny cy, .slice ta nt ct]] W fun e w' => ∃ g : Gs, e = .returned (.agg (prodA ⟨x, z, nc, ns, np, no, ny, nt, C, S, P, O, Y, T⟩ (g.r ⟨x, z, nc, ns, np, no, ny, nt, C, S, P, O, Y, T⟩))) ∧ g.ok W.heap.size w'.heap.size ∧ PdOwn w' ⟨x, z, nc, ns, np, no, ny, nt, C, S, P, O, Y, T⟩ (g.r ⟨x, z, nc, ns, np, no, ny, nt, C, S, P, O, Y, T⟩) ∧ Below W.heap.size W w') := fun W hW => to_prod ⟨x, z, nc, ns, np, no, ny, nt, C, S, P, O, Y, T⟩ ⟨ca, sa, pa, oa, ya, ta, cc, cs, cp, co, cy, ct⟩ HS.out W (HL.out.below hW)
  obtain ⟨m, hm⟩ : ∃ m, hookN ⟨x, z, nc, ns, np, no, ny, nt, C, S, P, O, Y, T⟩ h = m := ⟨_, rfl⟩
  obtain ⟨J, hJ⟩ : ∃ J, hookL ⟨x, z, nc, ns, np, no, ny, nt, C, S, P, O, Y, T⟩ h = J := ⟨_, rfl⟩
  have hm1 : m ≤ 1048576 := by rw [← hm]; exact hook_small HS.out h
  have HSP : Hid (∀ (g : Gs) W, PdAt W ⟨x, z, nc, ns, np, no, ny, nt, C, S, P, O, Y, T⟩ (g.r ⟨x, z, nc, ns, np, no, ny, nt, C, S, P, O, Y, T⟩) → Calls Try.prog 13 #[.agg (prodA ⟨x, z, nc, ns, np, no, ny, nt, C, S, P, O, Y, T⟩ (g.r ⟨x, z, nc, ns, np, no, ny, nt, C, S, P, O, Y, T⟩)), .int .i64 h] W fun e w' => ∃ a cap, e = .returned (.slice a m cap) ∧ OwnR w' a m 5 (nodeF J) ∧ (∀ k, a.map Addr.block = some k → W.heap.size ≤ k ∧ k < w'.heap.size) ∧ Below W.heap.size W w') := fun g W hW => by rw [← hm, ← hJ]; exact spec_hook ⟨x, z, nc, ns, np, no, ny, nt, C, S, P, O, Y, T⟩ g h HS.out W hW
  have HIP : Hid (∀ (r : Pr) W, PdAt W ⟨x, z, nc, ns, np, no, ny, nt, C, S, P, O, Y, T⟩ r → Calls Try.prog 14 #[.agg (prodA ⟨x, z, nc, ns, np, no, ny, nt, C, S, P, O, Y, T⟩ r), .int .i64 h] W fun e w' => ∃ a cap, e = .returned (.slice a m cap) ∧ OwnR w' a m 5 (nodeF J) ∧ (∀ k, a.map Addr.block = some k → W.heap.size ≤ k ∧ k < w'.heap.size) ∧ Below W.heap.size W w') := fun r W hW => by rw [← hm, ← hJ]; exact impl_hook ⟨x, z, nc, ns, np, no, ny, nt, C, S, P, O, Y, T⟩ r h HS.out W hW
  clear hm hJ
  have bx0 : w1.cell? ⟨w.heap.size, 0, none⟩ = some (.string x) := HX1.out.cell 0
  have bx1 : w1.cell? ⟨w.heap.size, 1, none⟩ = some (.int .i64 z) := HX1.out.cell 1
  have bx2 : w1.cell? ⟨w.heap.size, 2, none⟩ = some (.slice ca nc cc) := HX1.out.cell 2
  have bx3 : w1.cell? ⟨w.heap.size, 3, none⟩ = some (.slice sa ns cs) := HX1.out.cell 3
  have bx4 : w1.cell? ⟨w.heap.size, 4, none⟩ = some (.slice pa np cp) := HX1.out.cell 4
  have bx5 : w1.cell? ⟨w.heap.size, 5, none⟩ = some (.slice oa no co) := HX1.out.cell 5
  have bx6 : w1.cell? ⟨w.heap.size, 6, none⟩ = some (.slice ya ny cy) := HX1.out.cell 6
  have bx7 : w1.cell? ⟨w.heap.size, 7, none⟩ = some (.slice ta nt ct) := HX1.out.cell 7
  go_wp2_with fail
  refine (HTA.out _ HB1.out).mono ?_
  rintro e w2 ⟨g', rfl, _, hP, hb⟩
  have HX2 : Hid (Bq8 w2 w.heap.size #[.string x, .int .i64 z, .slice ca nc cc, .slice sa ns cs, .slice pa np cp, .slice oa no co, .slice ya ny cy, .slice ta nt ct]) := HX1.out.below hb
  have HB2 : Hid (Below w.heap.size w w2) := HB1.out.trans (hb.mono HB1.out.size)
  have HP2 : Hid (PdAt w2 ⟨x, z, nc, ns, np, no, ny, nt, C, S, P, O, Y, T⟩ (g'.r ⟨x, z, nc, ns, np, no, ny, nt, C, S, P, O, Y, T⟩)) := hP.at
  clear hb hP HX1 HB1 bx0 bx1 bx2 bx3 bx4 bx5 bx6 bx7
  go_wp2_with fail
  refine (HSP.out g' _ HP2.out).mono ?_
  rintro e w3 ⟨sa', sc, rfl, hO, hl, hb⟩
  have HX3 : Hid (Bq8 w3 w.heap.size #[.string x, .int .i64 z, .slice ca nc cc, .slice sa ns cs, .slice pa np cp, .slice oa no co, .slice ya ny cy, .slice ta nt ct]) := HX2.out.below hb
  have HB3 : Hid (Below w.heap.size w w3) := HB2.out.trans (hb.mono HB2.out.size)
  have HO3 : Hid (OwnR w3 sa' m 5 (nodeF J)) := hO
  have HLs : Hid (∀ k, sa'.map Addr.block = some k → w.heap.size < k ∧ k < w3.heap.size) := fun k e => ⟨by have := (hl k e).1; have := HX2.out.lt; omega, (hl k e).2⟩
  clear hO hl hb HX2 HB2 HP2 HSP
  have bx0 : w3.cell? ⟨w.heap.size, 0, none⟩ = some (.string x) := HX3.out.cell 0
  have bx1 : w3.cell? ⟨w.heap.size, 1, none⟩ = some (.int .i64 z) := HX3.out.cell 1
  have bx2 : w3.cell? ⟨w.heap.size, 2, none⟩ = some (.slice ca nc cc) := HX3.out.cell 2
  have bx3 : w3.cell? ⟨w.heap.size, 3, none⟩ = some (.slice sa ns cs) := HX3.out.cell 3
  have bx4 : w3.cell? ⟨w.heap.size, 4, none⟩ = some (.slice pa np cp) := HX3.out.cell 4
  have bx5 : w3.cell? ⟨w.heap.size, 5, none⟩ = some (.slice oa no co) := HX3.out.cell 5
  have bx6 : w3.cell? ⟨w.heap.size, 6, none⟩ = some (.slice ya ny cy) := HX3.out.cell 6
  have bx7 : w3.cell? ⟨w.heap.size, 7, none⟩ = some (.slice ta nt ct) := HX3.out.cell 7
  go_wp2_with fail
  refine (HTA.out _ HB3.out).mono ?_
  rintro e w6 ⟨⟨g0, g1, g2, g3, g4, g5⟩, rfl, hok, hP, hb⟩
  have hal : Below w6.heap.size w6 (w6.alloc (.cells #[.string x, .int .i64 z, .slice (some ⟨g0, 0, none⟩) nc nc, .slice (some ⟨g1, 0, none⟩) ns ns, .slice (some ⟨g2, 0, none⟩) np np, .slice (some ⟨g3, 0, none⟩) no no, .slice (some ⟨g4, 0, none⟩) ny ny, .slice (some ⟨g5, 0, none⟩) nt nt] 33)) := (Below.refl _ _).alloc (Nat.le_refl _) _
  have HX6 : Hid (Bq8 (w6.alloc (.cells #[.string x, .int .i64 z, .slice (some ⟨g0, 0, none⟩) nc nc, .slice (some ⟨g1, 0, none⟩) ns ns, .slice (some ⟨g2, 0, none⟩) np np, .slice (some ⟨g3, 0, none⟩) no no, .slice (some ⟨g4, 0, none⟩) ny ny, .slice (some ⟨g5, 0, none⟩) nt nt] 33)) w.heap.size #[.string x, .int .i64 z, .slice ca nc cc, .slice sa ns cs, .slice pa np cp, .slice oa no co, .slice ya ny cy, .slice ta nt ct]) := (HX3.out.below hb).below hal
  have HK6 : Hid (Bq8 (w6.alloc (.cells #[.string x, .int .i64 z, .slice (some ⟨g0, 0, none⟩) nc nc, .slice (some ⟨g1, 0, none⟩) ns ns, .slice (some ⟨g2, 0, none⟩) np np, .slice (some ⟨g3, 0, none⟩) no no, .slice (some ⟨g4, 0, none⟩) ny ny, .slice (some ⟨g5, 0, none⟩) nt nt] 33)) w6.heap.size #[.string x, .int .i64 z, .slice (some ⟨g0, 0, none⟩) nc nc, .slice (some ⟨g1, 0, none⟩) ns ns, .slice (some ⟨g2, 0, none⟩) np np, .slice (some ⟨g3, 0, none⟩) no no, .slice (some ⟨g4, 0, none⟩) ny ny, .slice (some ⟨g5, 0, none⟩) nt nt]) := Bq8.new _ _ _
  have HB6 : Hid (Below w.heap.size w (w6.alloc (.cells #[.string x, .int .i64 z, .slice (some ⟨g0, 0, none⟩) nc nc, .slice (some ⟨g1, 0, none⟩) ns ns, .slice (some ⟨g2, 0, none⟩) np np, .slice (some ⟨g3, 0, none⟩) no no, .slice (some ⟨g4, 0, none⟩) ny ny, .slice (some ⟨g5, 0, none⟩) nt nt] 33))) := (HB3.out.trans (hb.mono HB3.out.size)).trans (hal.mono (Nat.le_trans HB3.out.size hb.size))
  have HO6 : Hid (OwnR (w6.alloc (.cells #[.string x, .int .i64 z, .slice (some ⟨g0, 0, none⟩) nc nc, .slice (some ⟨g1, 0, none⟩) ns ns, .slice (some ⟨g2, 0, none⟩) np np, .slice (some ⟨g3, 0, none⟩) no no, .slice (some ⟨g4, 0, none⟩) ny ny, .slice (some ⟨g5, 0, none⟩) nt nt] 33)) sa' m 5 (nodeF J)) := (HO3.out.below hb).below hal
  have HP6 : Hid (PdOwn (w6.alloc (.cells #[.string x, .int .i64 z, .slice (some ⟨g0, 0, none⟩) nc nc, .slice (some ⟨g1, 0, none⟩) ns ns, .slice (some ⟨g2, 0, none⟩) np np, .slice (some ⟨g3, 0, none⟩) no no, .slice (some ⟨g4, 0, none⟩) ny ny, .slice (some ⟨g5, 0, none⟩) nt nt] 33)) ⟨x, z, nc, ns, np, no, ny, nt, C, S, P, O, Y, T⟩ (Gs.r ⟨g0, g1, g2, g3, g4, g5⟩ ⟨x, z, nc, ns, np, no, ny, nt, C, S, P, O, Y, T⟩)) := hP.below hal
  have HG6 : Hid (Gs.ok ⟨g0, g1, g2, g3, g4, g5⟩ w3.heap.size w6.heap.size) := hok
  have HW3 : Hid (w.heap.size < w3.heap.size) := HX3.out.lt
  clear hal hb hP hok HX3 HB3 HO3 bx0 bx1 bx2 bx3 bx4 bx5 bx6 bx7
  simp only [prodA, Gs.r]
  go_upto_region 7 with fail
  obtain ⟨W6, hW6⟩ : ∃ W, W = (w6.alloc (.cells #[.string x, .int .i64 z, .slice (some ⟨g0, 0, none⟩) nc nc, .slice (some ⟨g1, 0, none⟩) ns ns, .slice (some ⟨g2, 0, none⟩) np np, .slice (some ⟨g3, 0, none⟩) no no, .slice (some ⟨g4, 0, none⟩) ny ny, .slice (some ⟨g5, 0, none⟩) nt nt] 33)) := ⟨_, rfl⟩
  obtain ⟨X0, hX0⟩ : ∃ X, X = w6.heap.size := ⟨_, rfl⟩
  have hXW : X0 < W6.heap.size := by rw [hW6, hX0]; simp
  have HXW : Hid (X0 < W6.heap.size) := hXW
  clear hXW
  rw [← hW6] at HX6 HK6 HB6 HO6 HP6 ⊢
  rw [← hX0] at HK6 HG6 ⊢
  clear hW6 hX0
  have xa0 : W6.cell? ⟨X0, 0, none⟩ = some (.string x) := HK6.out.cell 0
  have xa1 : W6.cell? ⟨X0, 1, none⟩ = some (.int .i64 z) := HK6.out.cell 1
  have xa2 : W6.cell? ⟨X0, 2, none⟩ = some (.slice (some ⟨g0, 0, none⟩) nc nc) := HK6.out.cell 2
  have xa3 : W6.cell? ⟨X0, 3, none⟩ = some (.slice (some ⟨g1, 0, none⟩) ns ns) := HK6.out.cell 3
  have xa4 : W6.cell? ⟨X0, 4, none⟩ = some (.slice (some ⟨g2, 0, none⟩) np np) := HK6.out.cell 4
  have xa5 : W6.cell? ⟨X0, 5, none⟩ = some (.slice (some ⟨g3, 0, none⟩) no no) := HK6.out.cell 5
  have xa6 : W6.cell? ⟨X0, 6, none⟩ = some (.slice (some ⟨g4, 0, none⟩) ny ny) := HK6.out.cell 6
  have xa7 : W6.cell? ⟨X0, 7, none⟩ = some (.slice (some ⟨g5, 0, none⟩) nt nt) := HK6.out.cell 7
  go_wp2_with fail
  refine (HIP.out (Gs.r ⟨g0, g1, g2, g3, g4, g5⟩ ⟨x, z, nc, ns, np, no, ny, nt, C, S, P, O, Y, T⟩) _ HP6.out.at).mono ?_
  rintro e w7 ⟨ga, gk, rfl, hO, hl, hb⟩
  have HX7 : Hid (Bq8 w7 w.heap.size #[.string x, .int .i64 z, .slice ca nc cc, .slice sa ns cs, .slice pa np cp, .slice oa no co, .slice ya ny cy, .slice ta nt ct]) := HX6.out.below hb
  have HK7 : Hid (Bq8 w7 X0 #[.string x, .int .i64 z, .slice (some ⟨g0, 0, none⟩) nc nc, .slice (some ⟨g1, 0, none⟩) ns ns, .slice (some ⟨g2, 0, none⟩) np np, .slice (some ⟨g3, 0, none⟩) no no, .slice (some ⟨g4, 0, none⟩) ny ny, .slice (some ⟨g5, 0, none⟩) nt nt]) := HK6.out.below hb
  have HB7 : Hid (Below w.heap.size w w7) := HB6.out.trans (hb.mono HB6.out.size)
  have HO7 : Hid (OwnR w7 sa' m 5 (nodeF J)) := HO6.out.below hb
  have HP7 : Hid (PdOwn w7 ⟨x, z, nc, ns, np, no, ny, nt, C, S, P, O, Y, T⟩ (Gs.r ⟨g0, g1, g2, g3, g4, g5⟩ ⟨x, z, nc, ns, np, no, ny, nt, C, S, P, O, Y, T⟩)) := HP6.out.below hb
  have HQ7 : Hid (OwnR w7 ga m 5 (nodeF J)) := hO
  have HLg : Hid (∀ k, ga.map Addr.block = some k → X0 < k ∧ k < w7.heap.size) := fun k e => ⟨by have := (hl k e).1; have := HXW.out; omega, (hl k e).2⟩
  clear hO hl hb HX6 HK6 HB6 HO6 HP6 HXW xa0 xa1 xa2 xa3 xa4 xa5 xa6 xa7
  go_wp2_with fail
  refine (eq_nodes ga sa' m gk sc J hm1 _ HQ7.out.nodes HO7.out.nodes).mono ?_
  rintro e w8 ⟨rfl, hb⟩
  have HX8 : Hid (Bq8 w8 w.heap.size #[.string x, .int .i64 z, .slice ca nc cc, .slice sa ns cs, .slice pa np cp, .slice oa no co, .slice ya ny cy, .slice ta nt ct]) := HX7.out.below hb
  have HK8 : Hid (Bq8 w8 X0 #[.string x, .int .i64 z, .slice (some ⟨g0, 0, none⟩) nc nc, .slice (some ⟨g1, 0, none⟩) ns ns, .slice (some ⟨g2, 0, none⟩) np np, .slice (some ⟨g3, 0, none⟩) no no, .slice (some ⟨g4, 0, none⟩) ny ny, .slice (some ⟨g5, 0, none⟩) nt nt]) := HK7.out.below hb
  have HB8 : Hid (Below w.heap.size w w8) := HB7.out.trans (hb.mono HB7.out.size)
  have HO8 : Hid (OwnR w8 sa' m 5 (nodeF J)) := HO7.out.below hb
  have HP8 : Hid (PdOwn w8 ⟨x, z, nc, ns, np, no, ny, nt, C, S, P, O, Y, T⟩ (Gs.r ⟨g0, g1, g2, g3, g4, g5⟩ ⟨x, z, nc, ns, np, no, ny, nt, C, S, P, O, Y, T⟩)) := HP7.out.below hb
  have HQ8 : Hid (OwnR w8 ga m 5 (nodeF J)) := HQ7.out.below hb
  clear hb HX7 HK7 HB7 HO7 HP7 HQ7
  have bx0 : w8.cell? ⟨w.heap.size, 0, none⟩ = some (.string x) := HX8.out.cell 0
  have bx1 : w8.cell? ⟨w.heap.size, 1, none⟩ = some (.int .i64 z) := HX8.out.cell 1
  have bx2 : w8.cell? ⟨w.heap.size, 2, none⟩ = some (.slice ca nc cc) := HX8.out.cell 2
  have bx3 : w8.cell? ⟨w.heap.size, 3, none⟩ = some (.slice sa ns cs) := HX8.out.cell 3
  have bx4 : w8.cell? ⟨w.heap.size, 4, none⟩ = some (.slice pa np cp) := HX8.out.cell 4
  have bx5 : w8.cell? ⟨w.heap.size, 5, none⟩ = some (.slice oa no co) := HX8.out.cell 5
  have bx6 : w8.cell? ⟨w.heap.size, 6, none⟩ = some (.slice ya ny cy) := HX8.out.cell 6
  have bx7 : w8.cell? ⟨w.heap.size, 7, none⟩ = some (.slice ta nt ct) := HX8.out.cell 7
  have xa0 : w8.cell? ⟨X0, 0, none⟩ = some (.string x) := HK8.out.cell 0
  have xa1 : w8.cell? ⟨X0, 1, none⟩ = some (.int .i64 z) := HK8.out.cell 1
  have xa2 : w8.cell? ⟨X0, 2, none⟩ = some (.slice (some ⟨g0, 0, none⟩) nc nc) := HK8.out.cell 2
  have xa3 : w8.cell? ⟨X0, 3, none⟩ = some (.slice (some ⟨g1, 0, none⟩) ns ns) := HK8.out.cell 3
  have xa4 : w8.cell? ⟨X0, 4, none⟩ = some (.slice (some ⟨g2, 0, none⟩) np np) := HK8.out.cell 4
  have xa5 : w8.cell? ⟨X0, 5, none⟩ = some (.slice (some ⟨g3, 0, none⟩) no no) := HK8.out.cell 5
  have xa6 : w8.cell? ⟨X0, 6, none⟩ = some (.slice (some ⟨g4, 0, none⟩) ny ny) := HK8.out.cell 6
  have xa7 : w8.cell? ⟨X0, 7, none⟩ = some (.slice (some ⟨g5, 0, none⟩) nt nt) := HK8.out.cell 7
  have ne0 : w8.heap.size ≠ w.heap.size := by have := HX8.out.lt; omega
  have neX : w8.heap.size ≠ X0 := by have := HK8.out.lt; omega
  go_upto_region 10 with fail
  go_region_held3 (fun W => W.cell? ⟨X0, 0, none⟩ = some (.string x) ∧ W.cell? ⟨X0, 1, none⟩ = some (.int .i64 z) ∧ W.cell? ⟨X0, 2, none⟩ = some (.slice (some ⟨g0, 0, none⟩) nc nc) ∧ W.cell? ⟨X0, 3, none⟩ = some (.slice (some ⟨g1, 0, none⟩) ns ns) ∧ W.cell? ⟨X0, 4, none⟩ = some (.slice (some ⟨g2, 0, none⟩) np np) ∧ W.cell? ⟨X0, 5, none⟩ = some (.slice (some ⟨g3, 0, none⟩) no no) ∧ W.cell? ⟨X0, 6, none⟩ = some (.slice (some ⟨g4, 0, none⟩) ny ny) ∧ W.cell? ⟨X0, 7, none⟩ = some (.slice (some ⟨g5, 0, none⟩) nt nt) ∧ W.cell? ⟨w.heap.size, 0, none⟩ = some (.string x) ∧ W.cell? ⟨w.heap.size, 1, none⟩ = some (.int .i64 z) ∧ W.cell? ⟨w.heap.size, 2, none⟩ = some (.slice ca nc cc) ∧ W.cell? ⟨w.heap.size, 3, none⟩ = some (.slice sa ns cs) ∧ W.cell? ⟨w.heap.size, 4, none⟩ = some (.slice pa np cp) ∧ W.cell? ⟨w.heap.size, 5, none⟩ = some (.slice oa no co) ∧ W.cell? ⟨w.heap.size, 6, none⟩ = some (.slice ya ny cy) ∧ W.cell? ⟨w.heap.size, 7, none⟩ = some (.slice ta nt ct)) (go_keep) (first | (go_at_call 10; refine (HTA.out _ (by first | exact HB8.out.drew | exact HB8.out)).mono ?_; rintro e w9 ⟨h9, rfl, _, hP9, hb9⟩; have X9 : Bq8 w9 w.heap.size #[.string x, .int .i64 z, .slice ca nc cc, .slice sa ns cs, .slice pa np cp, .slice oa no co, .slice ya ny cy, .slice ta nt ct] := (by first | exact HX8.out.below hb9 | exact (HX8.out.below ((Below.refl _ _).drew)).below hb9); have K9 : Bq8 w9 X0 #[.string x, .int .i64 z, .slice (some ⟨g0, 0, none⟩) nc nc, .slice (some ⟨g1, 0, none⟩) ns ns, .slice (some ⟨g2, 0, none⟩) np np, .slice (some ⟨g3, 0, none⟩) no no, .slice (some ⟨g4, 0, none⟩) ny ny, .slice (some ⟨g5, 0, none⟩) nt nt] := (by first | exact HK8.out.below hb9 | exact (HK8.out.below ((Below.refl _ _).drew)).below hb9); have P9 : PdOwn w9 ⟨x, z, nc, ns, np, no, ny, nt, C, S, P, O, Y, T⟩ (Gs.r ⟨g0, g1, g2, g3, g4, g5⟩ ⟨x, z, nc, ns, np, no, ny, nt, C, S, P, O, Y, T⟩) := (by first | exact HP8.out.below hb9 | exact (HP8.out.below ((Below.refl _ _).drew)).below hb9); have B9 : Below w.heap.size w w9 := (by first | exact HB8.out.trans (hb9.mono HB8.out.size) | exact HB8.out.drew.trans (hb9.mono HB8.out.size)); have bx0 : w9.cell? ⟨w.heap.size, 0, none⟩ = some (.string x) := X9.cell 0; have bx1 : w9.cell? ⟨w.heap.size, 1, none⟩ = some (.int .i64 z) := X9.cell 1; have bx2 : w9.cell? ⟨w.heap.size, 2, none⟩ = some (.slice ca nc cc) := X9.cell 2; have bx3 : w9.cell? ⟨w.heap.size, 3, none⟩ = some (.slice sa ns cs) := X9.cell 3; have bx4 : w9.cell? ⟨w.heap.size, 4, none⟩ = some (.slice pa np cp) := X9.cell 4; have bx5 : w9.cell? ⟨w.heap.size, 5, none⟩ = some (.slice oa no co) := X9.cell 5; have bx6 : w9.cell? ⟨w.heap.size, 6, none⟩ = some (.slice ya ny cy) := X9.cell 6; have bx7 : w9.cell? ⟨w.heap.size, 7, none⟩ = some (.slice ta nt ct) := X9.cell 7; have xa0 : w9.cell? ⟨X0, 0, none⟩ = some (.string x) := K9.cell 0; have xa1 : w9.cell? ⟨X0, 1, none⟩ = some (.int .i64 z) := K9.cell 1; have xa2 : w9.cell? ⟨X0, 2, none⟩ = some (.slice (some ⟨g0, 0, none⟩) nc nc) := K9.cell 2; have xa3 : w9.cell? ⟨X0, 3, none⟩ = some (.slice (some ⟨g1, 0, none⟩) ns ns) := K9.cell 3; have xa4 : w9.cell? ⟨X0, 4, none⟩ = some (.slice (some ⟨g2, 0, none⟩) np np) := K9.cell 4; have xa5 : w9.cell? ⟨X0, 5, none⟩ = some (.slice (some ⟨g3, 0, none⟩) no no) := K9.cell 5; have xa6 : w9.cell? ⟨X0, 6, none⟩ = some (.slice (some ⟨g4, 0, none⟩) ny ny) := K9.cell 6; have xa7 : w9.cell? ⟨X0, 7, none⟩ = some (.slice (some ⟨g5, 0, none⟩) nt nt) := K9.cell 7; have ne0 : w9.heap.size ≠ w.heap.size := (by have := X9.lt; omega); have neX : w9.heap.size ≠ X0 := (by have := K9.lt; omega)) | (go_at_call 12; refine (eq_prod ⟨x, z, nc, ns, np, no, ny, nt, C, S, P, O, Y, T⟩ (Gs.r ⟨g0, g1, g2, g3, g4, g5⟩ ⟨x, z, nc, ns, np, no, ny, nt, C, S, P, O, Y, T⟩) _ HS.out _ (by first | exact P9.at | exact P9.at.below ((Below.refl _ _).drew)) (by first | exact hP9.at | exact hP9.at.below ((Below.refl _ _).drew))).mono ?_; rintro e wa ⟨rfl, hba⟩; have Xa : Bq8 wa w.heap.size #[.string x, .int .i64 z, .slice ca nc cc, .slice sa ns cs, .slice pa np cp, .slice oa no co, .slice ya ny cy, .slice ta nt ct] := (by first | exact X9.below hba | exact (X9.below ((Below.refl _ _).drew)).below hba); have Ka : Bq8 wa X0 #[.string x, .int .i64 z, .slice (some ⟨g0, 0, none⟩) nc nc, .slice (some ⟨g1, 0, none⟩) ns ns, .slice (some ⟨g2, 0, none⟩) np np, .slice (some ⟨g3, 0, none⟩) no no, .slice (some ⟨g4, 0, none⟩) ny ny, .slice (some ⟨g5, 0, none⟩) nt nt] := (by first | exact K9.below hba | exact (K9.below ((Below.refl _ _).drew)).below hba); have bx0 : wa.cell? ⟨w.heap.size, 0, none⟩ = some (.string x) := Xa.cell 0; have bx1 : wa.cell? ⟨w.heap.size, 1, none⟩ = some (.int .i64 z) := Xa.cell 1; have bx2 : wa.cell? ⟨w.heap.size, 2, none⟩ = some (.slice ca nc cc) := Xa.cell 2; have bx3 : wa.cell? ⟨w.heap.size, 3, none⟩ = some (.slice sa ns cs) := Xa.cell 3; have bx4 : wa.cell? ⟨w.heap.size, 4, none⟩ = some (.slice pa np cp) := Xa.cell 4; have bx5 : wa.cell? ⟨w.heap.size, 5, none⟩ = some (.slice oa no co) := Xa.cell 5; have bx6 : wa.cell? ⟨w.heap.size, 6, none⟩ = some (.slice ya ny cy) := Xa.cell 6; have bx7 : wa.cell? ⟨w.heap.size, 7, none⟩ = some (.slice ta nt ct) := Xa.cell 7; have xa0 : wa.cell? ⟨X0, 0, none⟩ = some (.string x) := Ka.cell 0; have xa1 : wa.cell? ⟨X0, 1, none⟩ = some (.int .i64 z) := Ka.cell 1; have xa2 : wa.cell? ⟨X0, 2, none⟩ = some (.slice (some ⟨g0, 0, none⟩) nc nc) := Ka.cell 2; have xa3 : wa.cell? ⟨X0, 3, none⟩ = some (.slice (some ⟨g1, 0, none⟩) ns ns) := Ka.cell 3; have xa4 : wa.cell? ⟨X0, 4, none⟩ = some (.slice (some ⟨g2, 0, none⟩) np np) := Ka.cell 4; have xa5 : wa.cell? ⟨X0, 5, none⟩ = some (.slice (some ⟨g3, 0, none⟩) no no) := Ka.cell 5; have xa6 : wa.cell? ⟨X0, 6, none⟩ = some (.slice (some ⟨g4, 0, none⟩) ny ny) := Ka.cell 6; have xa7 : wa.cell? ⟨X0, 7, none⟩ = some (.slice (some ⟨g5, 0, none⟩) nt nt) := Ka.cell 7; have ne0 : wa.heap.size ≠ w.heap.size := (by have := Xa.lt; omega); have neX : wa.heap.size ≠ X0 := (by have := Ka.lt; omega)))
  all_goals
    have HXa : Hid (Bq8 wa w.heap.size #[.string x, .int .i64 z, .slice ca nc cc, .slice sa ns cs, .slice pa np cp, .slice oa no co, .slice ya ny cy, .slice ta nt ct]) := Xa
    have HKa : Hid (Bq8 wa X0 #[.string x, .int .i64 z, .slice (some ⟨g0, 0, none⟩) nc nc, .slice (some ⟨g1, 0, none⟩) ns ns, .slice (some ⟨g2, 0, none⟩) np np, .slice (some ⟨g3, 0, none⟩) no no, .slice (some ⟨g4, 0, none⟩) ny ny, .slice (some ⟨g5, 0, none⟩) nt nt]) := Ka
    have HBa : Hid (Below w.heap.size w wa) := (by first | exact B9.trans (hba.mono B9.size) | exact B9.drew.trans (hba.mono B9.size))
    have HOa : Hid (OwnR wa sa' m 5 (nodeF J)) := (by first | exact (show OwnR w9 sa' m 5 (nodeF J) from (by first | exact HO8.out.below hb9 | exact (HO8.out.below ((Below.refl _ _).drew)).below hb9)).below hba | exact ((show OwnR w9 sa' m 5 (nodeF J) from (by first | exact HO8.out.below hb9 | exact (HO8.out.below ((Below.refl _ _).drew)).below hb9)).below ((Below.refl _ _).drew)).below hba)
    have HPa : Hid (PdOwn wa ⟨x, z, nc, ns, np, no, ny, nt, C, S, P, O, Y, T⟩ (Gs.r ⟨g0, g1, g2, g3, g4, g5⟩ ⟨x, z, nc, ns, np, no, ny, nt, C, S, P, O, Y, T⟩)) := (by first | exact P9.below hba | exact (P9.below ((Below.refl _ _).drew)).below hba)
    have HQa : Hid (OwnR wa ga m 5 (nodeF J)) := (by first | exact (show OwnR w9 ga m 5 (nodeF J) from (by first | exact HQ8.out.below hb9 | exact (HQ8.out.below ((Below.refl _ _).drew)).below hb9)).below hba | exact ((show OwnR w9 ga m 5 (nodeF J) from (by first | exact HQ8.out.below hb9 | exact (HQ8.out.below ((Below.refl _ _).drew)).below hb9)).below ((Below.refl _ _).drew)).below hba)
    clear Xa Ka X9 K9 P9 B9 hP9 hb9 hba bx0 bx1 bx2 bx3 bx4 bx5 bx6 bx7 xa0 xa1 xa2 xa3 xa4 xa5 xa6 xa7 ne0 neX HX8 HK8 HB8 HO8 HP8 HQ8
    have xa0 : wa.cell? ⟨X0, 0, none⟩ = some (.string x) := HKa.out.cell 0
    have xa1 : wa.cell? ⟨X0, 1, none⟩ = some (.int .i64 z) := HKa.out.cell 1
    have xa2 : wa.cell? ⟨X0, 2, none⟩ = some (.slice (some ⟨g0, 0, none⟩) nc nc) := HKa.out.cell 2
    have xa3 : wa.cell? ⟨X0, 3, none⟩ = some (.slice (some ⟨g1, 0, none⟩) ns ns) := HKa.out.cell 3
    have xa4 : wa.cell? ⟨X0, 4, none⟩ = some (.slice (some ⟨g2, 0, none⟩) np np) := HKa.out.cell 4
    have xa5 : wa.cell? ⟨X0, 5, none⟩ = some (.slice (some ⟨g3, 0, none⟩) no no) := HKa.out.cell 5
    have xa6 : wa.cell? ⟨X0, 6, none⟩ = some (.slice (some ⟨g4, 0, none⟩) ny ny) := HKa.out.cell 6
    have xa7 : wa.cell? ⟨X0, 7, none⟩ = some (.slice (some ⟨g5, 0, none⟩) nt nt) := HKa.out.cell 7
    have HMk : Hid (Calls Try.prog 16 #[.agg #[.string x, .int .i64 z, .slice (some ⟨g0, 0, none⟩) nc nc, .slice (some ⟨g1, 0, none⟩) ns ns, .slice (some ⟨g2, 0, none⟩) np np, .slice (some ⟨g3, 0, none⟩) no no, .slice (some ⟨g4, 0, none⟩) ny ny, .slice (some ⟨g5, 0, none⟩) nt nt], .int .i64 1] wa fun e w' => ∃ k : Nat, e = .returned (.int .i64 (k : Int)) ∧ Kp ⟨g0, g1, g2, g3, g4, g5⟩ wa w') := mark_prod ⟨x, z, nc, ns, np, no, ny, nt, C, S, P, O, Y, T⟩ ⟨g0, g1, g2, g3, g4, g5⟩ w3.heap.size HS.out wa (by obtain ⟨l0, l1, l2, l3, l4, l5, l6⟩ := HG6.out; exact ⟨l0, l1, l2, l3, l4, l5, by have := HKa.out.lt; simp only at l6 ⊢; omega⟩) HPa.out
    go_wp2_with fail
    refine HMk.out.mono ?_
    rintro e wb ⟨kk, rfl, hkp⟩
    obtain ⟨l0, l1, l2, l3, l4, l5, l6⟩ := HG6.out
    simp only at l0 l1 l2 l3 l4 l5 l6
    have hw3 := HW3.out
    have HXb : Hid (Bq8 wb w.heap.size #[.string x, .int .i64 z, .slice ca nc cc, .slice sa ns cs, .slice pa np cp, .slice oa no co, .slice ya ny cy, .slice ta nt ct]) := HXa.out.kp hkp (by simp only; omega)
    have HBb : Hid (Below w.heap.size w wb) := hkp.below HBa.out (by simp only; omega)
    have HOb : Hid (OwnR wb sa' m 5 (nodeF J)) := HOa.out.kp hkp (fun k e => by have := HLs.out k e; simp only; omega)
    have HQb : Hid (OwnR wb ga m 5 (nodeF J)) := HQa.out.kp hkp (fun k e => by have := HLg.out k e; simp only; omega)
    have qk : decide ((kk : Int) < 0) = false := by simp
    clear hkp HMk HXa HKa HBa HOa HPa HQa xa0 xa1 xa2 xa3 xa4 xa5 xa6 xa7
    go_wp2_with fail
    refine (eq_nodes ga sa' m gk sc J hm1 _ HQb.out.nodes HOb.out.nodes).mono ?_
    rintro e wc ⟨rfl, hb⟩
    have HXc : Hid (Bq8 wc w.heap.size #[.string x, .int .i64 z, .slice ca nc cc, .slice sa ns cs, .slice pa np cp, .slice oa no co, .slice ya ny cy, .slice ta nt ct]) := HXb.out.below hb
    have HBc : Hid (Below w.heap.size w wc) := HBb.out.trans (hb.mono HBb.out.size)
    have HOc : Hid (OwnR wc sa' m 5 (nodeF J)) := HOb.out.below hb
    have HQc : Hid (OwnR wc ga m 5 (nodeF J)) := HQb.out.below hb
    clear hb HXb HBb HOb HQb
    go_wp2_with fail
    refine (mark_nodes ga m gk _ hm1 1 (by omega) (by omega) _ HQc.out).mono ?_
    rintro e wd ⟨rfl, hO, hg⟩
    have HXd : Hid (Bq8 wd w.heap.size #[.string x, .int .i64 z, .slice ca nc cc, .slice sa ns cs, .slice pa np cp, .slice oa no co, .slice ya ny cy, .slice ta nt ct]) := HXc.out.grown hg (fun e => by have := (HLg.out _ e.symm).1; omega)
    have HBd : Hid (Below w.heap.size w wd) := HBc.out.grown hg HBc.out.size (fun k hk => by have := (HLg.out k hk).1; omega)
    have HOd : Hid (OwnR wd sa' m 5 (nodeF J)) := HOc.out.grown hg (fun k e e' => by have := (HLs.out k e).2; have := (HLg.out k e'.symm).1; omega)
    have HQd : Hid (OwnR wd ga m 5 (mkN 1)) := hO
    clear hg hO HXc HBc HOc HQc
    go_wp2_with fail
    refine (held_nodes ga m gk hm1 1 (by omega) (by omega) _ HQd.out).mono ?_
    rintro e we ⟨rfl, hb⟩
    have HXe : Hid (Bq8 we w.heap.size #[.string x, .int .i64 z, .slice ca nc cc, .slice sa ns cs, .slice pa np cp, .slice oa no co, .slice ya ny cy, .slice ta nt ct]) := HXd.out.below hb
    have HBe : Hid (Below w.heap.size w we) := HBd.out.trans (hb.mono HBd.out.size)
    have HOe : Hid (OwnR we sa' m 5 (nodeF J)) := HOd.out.below hb
    have HQe : Hid (OwnR we ga m 5 (mkN 1)) := HQd.out.below hb
    clear hb HXd HBd HOd HQd
    obtain ⟨kz, hkz⟩ : ∃ k : Nat, k = 1 + m * 5 := ⟨_, rfl⟩
    have qc : decide (((1 + m * 5 : Nat) : Int) < 0) = false := by simp; omega
    have qc' : decide ((1 : Int) + (m : Int) * 5 < 0) = false := by simp; omega
    have qq : ∀ z : Int, (z != z) = false := fun z => by simp
    clear hkz
    have bx0 : we.cell? ⟨w.heap.size, 0, none⟩ = some (.string x) := HXe.out.cell 0
    have bx1 : we.cell? ⟨w.heap.size, 1, none⟩ = some (.int .i64 z) := HXe.out.cell 1
    have bx2 : we.cell? ⟨w.heap.size, 2, none⟩ = some (.slice ca nc cc) := HXe.out.cell 2
    have bx3 : we.cell? ⟨w.heap.size, 3, none⟩ = some (.slice sa ns cs) := HXe.out.cell 3
    have bx4 : we.cell? ⟨w.heap.size, 4, none⟩ = some (.slice pa np cp) := HXe.out.cell 4
    have bx5 : we.cell? ⟨w.heap.size, 5, none⟩ = some (.slice oa no co) := HXe.out.cell 5
    have bx6 : we.cell? ⟨w.heap.size, 6, none⟩ = some (.slice ya ny cy) := HXe.out.cell 6
    have bx7 : we.cell? ⟨w.heap.size, 7, none⟩ = some (.slice ta nt ct) := HXe.out.cell 7
    go_wp2_with fail
    refine (HTA.out _ HBe.out).mono ?_
    rintro e wf ⟨gf, rfl, _, hP, hb⟩
    have HXf : Hid (Bq8 wf w.heap.size #[.string x, .int .i64 z, .slice ca nc cc, .slice sa ns cs, .slice pa np cp, .slice oa no co, .slice ya ny cy, .slice ta nt ct]) := HXe.out.below hb
    have HBf : Hid (Below w.heap.size w wf) := HBe.out.trans (hb.mono HBe.out.size)
    have HOf : Hid (OwnR wf sa' m 5 (nodeF J)) := HOe.out.below hb
    have HQf : Hid (OwnR wf ga m 5 (mkN 1)) := HQe.out.below hb
    have HPf : Hid (PdAt wf ⟨x, z, nc, ns, np, no, ny, nt, C, S, P, O, Y, T⟩ (gf.r ⟨x, z, nc, ns, np, no, ny, nt, C, S, P, O, Y, T⟩)) := hP.at
    clear hb hP HXe HBe HOe HQe bx0 bx1 bx2 bx3 bx4 bx5 bx6 bx7
    go_wp2_with fail
    refine (HIP.out (gf.r ⟨x, z, nc, ns, np, no, ny, nt, C, S, P, O, Y, T⟩) _ HPf.out).mono ?_
    rintro e wg ⟨ha, hk, rfl, hO, _, hb⟩
    have HBg : Hid (Below w.heap.size w wg) := HBf.out.trans (hb.mono HBf.out.size)
    have HOg : Hid (OwnR wg sa' m 5 (nodeF J)) := HOf.out.below hb
    have HQg : Hid (OwnR wg ga m 5 (mkN 1)) := HQf.out.below hb
    have HHg : Hid (OwnR wg ha m 5 (nodeF J)) := hO
    clear hb hO HXf HBf HOf HQf HPf
    go_wp2_with fail
    refine (eq_nodes ha sa' m hk sc J hm1 _ HHg.out.nodes HOg.out.nodes).mono ?_
    rintro e wh ⟨rfl, hb⟩
    have HBh : Hid (Below w.heap.size w wh) := HBg.out.trans (hb.mono HBg.out.size)
    have HQh : Hid (OwnR wh ga m 5 (mkN 1)) := HQg.out.below hb
    clear hb HBg HOg HQg HHg
    go_wp2_with fail
    refine (held_nodes ga m gk hm1 1 (by omega) (by omega) _ HQh.out).mono ?_
    rintro e wi ⟨rfl, hb⟩
    have HBi : Hid (Below w.heap.size w wi) := HBh.out.trans (hb.mono HBh.out.size)
    clear hb HBh HQh
    go_wp2_with fail
    go_ret
    exact ⟨rfl, HBi.out⟩
end Go.Proofs.Ythfjekpmaafhaaa
