/- The law of ProductRight. -/
import Derived.Test.YtnefcldjigndgaaDoorPrF
import Derived.Test.YtnefcldjigndgaaDoorPrJ
import Derived.Deep.RegionHeld3
import Derived.Deep.DeepCutAuto
namespace Go.Proofs.YtnefcldjigndgaaDoor
open Go.RowKit
open Go.Proofs.YtnefcldjigndgaaDoor.Draw

/-- Cells of a block. -/
structure Bp8 (W : World) (X : Nat) (cs : Array Value) : Prop where
  cell : ∀ j, W.cell? ⟨X, j, none⟩ = cs[j]?
  lt : X < W.heap.size
theorem Bp8.new (w : World) (cs : Array Value) (t : TypeId) : Bp8 (w.alloc (.cells cs t)) w.heap.size cs := ⟨fun j => cnew' rfl j, by simp⟩
theorem Bp8.below {W W' : World} {X : Nat} {cs : Array Value} (h : Bp8 W X cs) (hb : Below W.heap.size W W') : Bp8 W' X cs := ⟨fun j => (hb.cell (p := ⟨X, j, none⟩) h.lt).trans (h.cell j), Nat.lt_of_lt_of_le h.lt hb.size⟩
set_option maxRecDepth 100000 in
set_option maxHeartbeats 16000000 in
theorem law_productRight (d : Pd) (r : Pr) (hf : d.fits) (w : World) (hC : Asc w) (hA : PdAt w d r) :
    Calls Tryd.prog 5 #[.agg (prodA d r)] w fun e w' => e = .returned (.bool true) ∧ Below w.heap.size w w' := by
  obtain ⟨x, z, nc, ns, np, no, ny, nt, C, S, P, O, Y, T⟩ := d
  obtain ⟨ca, sa, pa, oa, ya, ta, cc, cs, cp, co, cy, ct⟩ := r
  have HL : Hid (PdAt w ⟨x, z, nc, ns, np, no, ny, nt, C, S, P, O, Y, T⟩ ⟨ca, sa, pa, oa, ya, ta, cc, cs, cp, co, cy, ct⟩) := hA
  have HC : Hid (Asc w) := hC
  have HZ : Hid (∀ (left : Nat), left ≤ 1048576 → ∀ W, Below w.heap.size w W → Calls Tryd.prog 14 #[.agg #[.string x, .int .i64 z, .slice ca nc cc, .slice sa ns cs, .slice pa np cp, .slice oa no co, .slice ya ny cy, .slice ta nt ct], .int .i64 (left : Int)] W fun e w' => (e = .returned (.int .i64 (-1)) ∨ ∃ q : Nat, e = .returned (.int .i64 (q : Int)) ∧ q ≤ left ∧ Pd.small ⟨x, z, nc, ns, np, no, ny, nt, C, S, P, O, Y, T⟩) ∧ Below W.heap.size W w') := fun left hl W hW => sz_prod ⟨x, z, nc, ns, np, no, ny, nt, C, S, P, O, Y, T⟩ ⟨ca, sa, pa, oa, ya, ta, cc, cs, cp, co, cy, ct⟩ hf left hl W (HL.out.below hW)
  have HX0 : Hid (Bp8 (w.alloc (.cells #[.string x, .int .i64 z, .slice ca nc cc, .slice sa ns cs, .slice pa np cp, .slice oa no co, .slice ya ny cy, .slice ta nt ct] 33)) w.heap.size #[.string x, .int .i64 z, .slice ca nc cc, .slice sa ns cs, .slice pa np cp, .slice oa no co, .slice ya ny cy, .slice ta nt ct]) := Bp8.new _ _ _
  have HB0 : Hid (Below w.heap.size w (w.alloc (.cells #[.string x, .int .i64 z, .slice ca nc cc, .slice sa ns cs, .slice pa np cp, .slice oa no co, .slice ya ny cy, .slice ta nt ct] 33))) := (Below.refl _ _).alloc (Nat.le_refl _) _
  clear hA hf hC
  show Calls Tryd.prog 5 #[.agg #[.string x, .int .i64 z, .slice ca nc cc, .slice sa ns cs, .slice pa np cp, .slice oa no co, .slice ya ny cy, .slice ta nt ct]] w _
  go_enter Tryd.func5, Tryd.ntmps5
  go_wp2_with fail
  refine (HZ.out 1048576 (by omega) _ HB0.out).mono ?_
  rintro e w1 ⟨he, hb⟩
  have HX1 : Hid (Bp8 w1 w.heap.size #[.string x, .int .i64 z, .slice ca nc cc, .slice sa ns cs, .slice pa np cp, .slice oa no co, .slice ya ny cy, .slice ta nt ct]) := HX0.out.below hb
  have HB1 : Hid (Below w.heap.size w w1) := HB0.out.trans (hb.mono HB0.out.size)
  clear hb HX0 HB0
  rcases he with rfl | ⟨q, rfl, hq, hsm⟩
  · have q1 : decide ((-1 : Int) < 0) = true := rfl
    go_wp2_with fail
    go_ret
    exact ⟨rfl, HB1.out⟩
  have q1 : decide ((q : Int) < 0) = false := by simp
  have HS : Hid (Pd.small ⟨x, z, nc, ns, np, no, ny, nt, C, S, P, O, Y, T⟩) := hsm
  clear hsm HZ
  have HTA : Hid (∀ W, Below w.heap.size w W → Calls Tryd.prog 16 #[.agg #[.string x, .int .i64 z, .slice ca nc cc, .slice sa ns cs, .slice pa np cp, .slice oa no co, .slice ya ny cy, .slice ta nt ct]] W fun e w' => ∃ g : Gs, e = .returned (.agg (prodA ⟨x, z, nc, ns, np, no, ny, nt, C, S, P, O, Y, T⟩ (g.r ⟨x, z, nc, ns, np, no, ny, nt, C, S, P, O, Y, T⟩))) ∧ g.ok W.heap.size w'.heap.size ∧ PdOwn w' ⟨x, z, nc, ns, np, no, ny, nt, C, S, P, O, Y, T⟩ (g.r ⟨x, z, nc, ns, np, no, ny, nt, C, S, P, O, Y, T⟩) ∧ Below W.heap.size W w') := fun W hW => to_prod ⟨x, z, nc, ns, np, no, ny, nt, C, S, P, O, Y, T⟩ ⟨ca, sa, pa, oa, ya, ta, cc, cs, cp, co, cy, ct⟩ HS.out W (HL.out.below hW)
  obtain ⟨B, hB⟩ : ∃ B, prodB ⟨x, z, nc, ns, np, no, ny, nt, C, S, P, O, Y, T⟩ = B := ⟨_, rfl⟩
  have HSP : Hid (∀ (g : Gs) W, PdAt W ⟨x, z, nc, ns, np, no, ny, nt, C, S, P, O, Y, T⟩ (g.r ⟨x, z, nc, ns, np, no, ny, nt, C, S, P, O, Y, T⟩) → Calls Tryd.prog 15 #[.agg (prodA ⟨x, z, nc, ns, np, no, ny, nt, C, S, P, O, Y, T⟩ (g.r ⟨x, z, nc, ns, np, no, ny, nt, C, S, P, O, Y, T⟩))] W fun e w' => e = .returned (.bool B) ∧ Below W.heap.size W w') := fun g W hW => by rw [← hB]; exact spec_productRight ⟨x, z, nc, ns, np, no, ny, nt, C, S, P, O, Y, T⟩ g HS.out W hW
  have HIP : Hid (∀ (g : Gs) W, Below w.heap.size w W → PdAt W ⟨x, z, nc, ns, np, no, ny, nt, C, S, P, O, Y, T⟩ (g.r ⟨x, z, nc, ns, np, no, ny, nt, C, S, P, O, Y, T⟩) → Calls Tryd.prog 17 #[.agg (prodA ⟨x, z, nc, ns, np, no, ny, nt, C, S, P, O, Y, T⟩ (g.r ⟨x, z, nc, ns, np, no, ny, nt, C, S, P, O, Y, T⟩))] W fun e w' => e = .returned (.bool B) ∧ Below W.heap.size W w') := fun g W hb hW => by rw [← hB]; exact impl_productRight ⟨x, z, nc, ns, np, no, ny, nt, C, S, P, O, Y, T⟩ g HS.out W (HC.out.below hb) hW
  clear hB
  have bx0 : w1.cell? ⟨w.heap.size, 0, none⟩ = some (.string x) := HX1.out.cell 0
  have bx1 : w1.cell? ⟨w.heap.size, 1, none⟩ = some (.int .i64 z) := HX1.out.cell 1
  have bx2 : w1.cell? ⟨w.heap.size, 2, none⟩ = some (.slice ca nc cc) := HX1.out.cell 2
  have bx3 : w1.cell? ⟨w.heap.size, 3, none⟩ = some (.slice sa ns cs) := HX1.out.cell 3
  have bx4 : w1.cell? ⟨w.heap.size, 4, none⟩ = some (.slice pa np cp) := HX1.out.cell 4
  have bx5 : w1.cell? ⟨w.heap.size, 5, none⟩ = some (.slice oa no co) := HX1.out.cell 5
  have bx6 : w1.cell? ⟨w.heap.size, 6, none⟩ = some (.slice ya ny cy) := HX1.out.cell 6
  have bx7 : w1.cell? ⟨w.heap.size, 7, none⟩ = some (.slice ta nt ct) := HX1.out.cell 7
  go_wp2_with fail
  refine (HTA.out _ HB1.out).mono ?_
  rintro e w2 ⟨g', rfl, _, hP, hb⟩
  have HX2 : Hid (Bp8 w2 w.heap.size #[.string x, .int .i64 z, .slice ca nc cc, .slice sa ns cs, .slice pa np cp, .slice oa no co, .slice ya ny cy, .slice ta nt ct]) := HX1.out.below hb
  have HB2 : Hid (Below w.heap.size w w2) := HB1.out.trans (hb.mono HB1.out.size)
  have HP2 : Hid (PdAt w2 ⟨x, z, nc, ns, np, no, ny, nt, C, S, P, O, Y, T⟩ (g'.r ⟨x, z, nc, ns, np, no, ny, nt, C, S, P, O, Y, T⟩)) := hP.at
  clear hb hP HX1 HB1 bx0 bx1 bx2 bx3 bx4 bx5 bx6 bx7
  go_wp2_with fail
  refine (HSP.out g' _ HP2.out).mono ?_
  rintro e w3 ⟨rfl, hb⟩
  have HX3 : Hid (Bp8 w3 w.heap.size #[.string x, .int .i64 z, .slice ca nc cc, .slice sa ns cs, .slice pa np cp, .slice oa no co, .slice ya ny cy, .slice ta nt ct]) := HX2.out.below hb
  have HB3 : Hid (Below w.heap.size w w3) := HB2.out.trans (hb.mono HB2.out.size)
  clear hb HX2 HB2 HP2 HSP
  have bx0 : w3.cell? ⟨w.heap.size, 0, none⟩ = some (.string x) := HX3.out.cell 0
  have bx1 : w3.cell? ⟨w.heap.size, 1, none⟩ = some (.int .i64 z) := HX3.out.cell 1
  have bx2 : w3.cell? ⟨w.heap.size, 2, none⟩ = some (.slice ca nc cc) := HX3.out.cell 2
  have bx3 : w3.cell? ⟨w.heap.size, 3, none⟩ = some (.slice sa ns cs) := HX3.out.cell 3
  have bx4 : w3.cell? ⟨w.heap.size, 4, none⟩ = some (.slice pa np cp) := HX3.out.cell 4
  have bx5 : w3.cell? ⟨w.heap.size, 5, none⟩ = some (.slice oa no co) := HX3.out.cell 5
  have bx6 : w3.cell? ⟨w.heap.size, 6, none⟩ = some (.slice ya ny cy) := HX3.out.cell 6
  have bx7 : w3.cell? ⟨w.heap.size, 7, none⟩ = some (.slice ta nt ct) := HX3.out.cell 7
  go_wp2_with fail
  refine (HTA.out _ HB3.out).mono ?_
  rintro e w6 ⟨⟨g0, g1, g2, g3, g4, g5⟩, rfl, hok, hP, hb⟩
  have hal : Below w6.heap.size w6 (w6.alloc (.cells #[.string x, .int .i64 z, .slice (some ⟨g0, 0, none⟩) nc nc, .slice (some ⟨g1, 0, none⟩) ns ns, .slice (some ⟨g2, 0, none⟩) np np, .slice (some ⟨g3, 0, none⟩) no no, .slice (some ⟨g4, 0, none⟩) ny ny, .slice (some ⟨g5, 0, none⟩) nt nt] 38)) := (Below.refl _ _).alloc (Nat.le_refl _) _
  have HX6 : Hid (Bp8 (w6.alloc (.cells #[.string x, .int .i64 z, .slice (some ⟨g0, 0, none⟩) nc nc, .slice (some ⟨g1, 0, none⟩) ns ns, .slice (some ⟨g2, 0, none⟩) np np, .slice (some ⟨g3, 0, none⟩) no no, .slice (some ⟨g4, 0, none⟩) ny ny, .slice (some ⟨g5, 0, none⟩) nt nt] 38)) w.heap.size #[.string x, .int .i64 z, .slice ca nc cc, .slice sa ns cs, .slice pa np cp, .slice oa no co, .slice ya ny cy, .slice ta nt ct]) := (HX3.out.below hb).below hal
  have HK6 : Hid (Bp8 (w6.alloc (.cells #[.string x, .int .i64 z, .slice (some ⟨g0, 0, none⟩) nc nc, .slice (some ⟨g1, 0, none⟩) ns ns, .slice (some ⟨g2, 0, none⟩) np np, .slice (some ⟨g3, 0, none⟩) no no, .slice (some ⟨g4, 0, none⟩) ny ny, .slice (some ⟨g5, 0, none⟩) nt nt] 38)) w6.heap.size #[.string x, .int .i64 z, .slice (some ⟨g0, 0, none⟩) nc nc, .slice (some ⟨g1, 0, none⟩) ns ns, .slice (some ⟨g2, 0, none⟩) np np, .slice (some ⟨g3, 0, none⟩) no no, .slice (some ⟨g4, 0, none⟩) ny ny, .slice (some ⟨g5, 0, none⟩) nt nt]) := Bp8.new _ _ _
  have HB6 : Hid (Below w.heap.size w (w6.alloc (.cells #[.string x, .int .i64 z, .slice (some ⟨g0, 0, none⟩) nc nc, .slice (some ⟨g1, 0, none⟩) ns ns, .slice (some ⟨g2, 0, none⟩) np np, .slice (some ⟨g3, 0, none⟩) no no, .slice (some ⟨g4, 0, none⟩) ny ny, .slice (some ⟨g5, 0, none⟩) nt nt] 38))) := (HB3.out.trans (hb.mono HB3.out.size)).trans (hal.mono (Nat.le_trans HB3.out.size hb.size))
  have HP6 : Hid (PdOwn (w6.alloc (.cells #[.string x, .int .i64 z, .slice (some ⟨g0, 0, none⟩) nc nc, .slice (some ⟨g1, 0, none⟩) ns ns, .slice (some ⟨g2, 0, none⟩) np np, .slice (some ⟨g3, 0, none⟩) no no, .slice (some ⟨g4, 0, none⟩) ny ny, .slice (some ⟨g5, 0, none⟩) nt nt] 38)) ⟨x, z, nc, ns, np, no, ny, nt, C, S, P, O, Y, T⟩ (Gs.r ⟨g0, g1, g2, g3, g4, g5⟩ ⟨x, z, nc, ns, np, no, ny, nt, C, S, P, O, Y, T⟩)) := hP.below hal
  clear hal hb hP hok HX3 HB3 bx0 bx1 bx2 bx3 bx4 bx5 bx6 bx7
  simp only [prodA, Gs.r]
  go_upto_region 7 with fail
  obtain ⟨W6, hW6⟩ : ∃ W, W = (w6.alloc (.cells #[.string x, .int .i64 z, .slice (some ⟨g0, 0, none⟩) nc nc, .slice (some ⟨g1, 0, none⟩) ns ns, .slice (some ⟨g2, 0, none⟩) np np, .slice (some ⟨g3, 0, none⟩) no no, .slice (some ⟨g4, 0, none⟩) ny ny, .slice (some ⟨g5, 0, none⟩) nt nt] 38)) := ⟨_, rfl⟩
  obtain ⟨X0, hX0⟩ : ∃ X, X = w6.heap.size := ⟨_, rfl⟩
  have hXW : X0 < W6.heap.size := by rw [hW6, hX0]; simp
  have HXW : Hid (X0 < W6.heap.size) := hXW
  clear hXW
  rw [← hW6] at HX6 HK6 HB6 HP6 ⊢
  rw [← hX0] at HK6 ⊢
  clear hW6 hX0
  have xa0 : W6.cell? ⟨X0, 0, none⟩ = some (.string x) := HK6.out.cell 0
  have xa1 : W6.cell? ⟨X0, 1, none⟩ = some (.int .i64 z) := HK6.out.cell 1
  have xa2 : W6.cell? ⟨X0, 2, none⟩ = some (.slice (some ⟨g0, 0, none⟩) nc nc) := HK6.out.cell 2
  have xa3 : W6.cell? ⟨X0, 3, none⟩ = some (.slice (some ⟨g1, 0, none⟩) ns ns) := HK6.out.cell 3
  have xa4 : W6.cell? ⟨X0, 4, none⟩ = some (.slice (some ⟨g2, 0, none⟩) np np) := HK6.out.cell 4
  have xa5 : W6.cell? ⟨X0, 5, none⟩ = some (.slice (some ⟨g3, 0, none⟩) no no) := HK6.out.cell 5
  have xa6 : W6.cell? ⟨X0, 6, none⟩ = some (.slice (some ⟨g4, 0, none⟩) ny ny) := HK6.out.cell 6
  have xa7 : W6.cell? ⟨X0, 7, none⟩ = some (.slice (some ⟨g5, 0, none⟩) nt nt) := HK6.out.cell 7
  go_wp2_with fail
  refine (HIP.out ⟨g0, g1, g2, g3, g4, g5⟩ _ HB6.out HP6.out.at).mono ?_
  rintro e w8 ⟨rfl, hb⟩
  have HX8 : Hid (Bp8 w8 w.heap.size #[.string x, .int .i64 z, .slice ca nc cc, .slice sa ns cs, .slice pa np cp, .slice oa no co, .slice ya ny cy, .slice ta nt ct]) := HX6.out.below hb
  have HK8 : Hid (Bp8 w8 X0 #[.string x, .int .i64 z, .slice (some ⟨g0, 0, none⟩) nc nc, .slice (some ⟨g1, 0, none⟩) ns ns, .slice (some ⟨g2, 0, none⟩) np np, .slice (some ⟨g3, 0, none⟩) no no, .slice (some ⟨g4, 0, none⟩) ny ny, .slice (some ⟨g5, 0, none⟩) nt nt]) := HK6.out.below hb
  have HB8 : Hid (Below w.heap.size w w8) := HB6.out.trans (hb.mono HB6.out.size)
  have HP8 : Hid (PdOwn w8 ⟨x, z, nc, ns, np, no, ny, nt, C, S, P, O, Y, T⟩ (Gs.r ⟨g0, g1, g2, g3, g4, g5⟩ ⟨x, z, nc, ns, np, no, ny, nt, C, S, P, O, Y, T⟩)) := HP6.out.below hb
  clear hb HX6 HK6 HB6 HP6 HXW xa0 xa1 xa2 xa3 xa4 xa5 xa6 xa7
  have hbb : (B != B) = false := by cases B <;> rfl
  have bx0 : w8.cell? ⟨w.heap.size, 0, none⟩ = some (.string x) := HX8.out.cell 0
  have bx1 : w8.cell? ⟨w.heap.size, 1, none⟩ = some (.int .i64 z) := HX8.out.cell 1
  have bx2 : w8.cell? ⟨w.heap.size, 2, none⟩ = some (.slice ca nc cc) := HX8.out.cell 2
  have bx3 : w8.cell? ⟨w.heap.size, 3, none⟩ = some (.slice sa ns cs) := HX8.out.cell 3
  have bx4 : w8.cell? ⟨w.heap.size, 4, none⟩ = some (.slice pa np cp) := HX8.out.cell 4
  have bx5 : w8.cell? ⟨w.heap.size, 5, none⟩ = some (.slice oa no co) := HX8.out.cell 5
  have bx6 : w8.cell? ⟨w.heap.size, 6, none⟩ = some (.slice ya ny cy) := HX8.out.cell 6
  have bx7 : w8.cell? ⟨w.heap.size, 7, none⟩ = some (.slice ta nt ct) := HX8.out.cell 7
  have xa0 : w8.cell? ⟨X0, 0, none⟩ = some (.string x) := HK8.out.cell 0
  have xa1 : w8.cell? ⟨X0, 1, none⟩ = some (.int .i64 z) := HK8.out.cell 1
  have xa2 : w8.cell? ⟨X0, 2, none⟩ = some (.slice (some ⟨g0, 0, none⟩) nc nc) := HK8.out.cell 2
  have xa3 : w8.cell? ⟨X0, 3, none⟩ = some (.slice (some ⟨g1, 0, none⟩) ns ns) := HK8.out.cell 3
  have xa4 : w8.cell? ⟨X0, 4, none⟩ = some (.slice (some ⟨g2, 0, none⟩) np np) := HK8.out.cell 4
  have xa5 : w8.cell? ⟨X0, 5, none⟩ = some (.slice (some ⟨g3, 0, none⟩) no no) := HK8.out.cell 5
  have xa6 : w8.cell? ⟨X0, 6, none⟩ = some (.slice (some ⟨g4, 0, none⟩) ny ny) := HK8.out.cell 6
  have xa7 : w8.cell? ⟨X0, 7, none⟩ = some (.slice (some ⟨g5, 0, none⟩) nt nt) := HK8.out.cell 7
  have ne0 : w8.heap.size ≠ w.heap.size := by have := HX8.out.lt; omega
  have neX : w8.heap.size ≠ X0 := by have := HK8.out.lt; omega
  go_upto_region 10 with fail
  go_region_held3 (fun W => W.cell? ⟨X0, 0, none⟩ = some (.string x) ∧ W.cell? ⟨X0, 1, none⟩ = some (.int .i64 z) ∧ W.cell? ⟨X0, 2, none⟩ = some (.slice (some ⟨g0, 0, none⟩) nc nc) ∧ W.cell? ⟨X0, 3, none⟩ = some (.slice (some ⟨g1, 0, none⟩) ns ns) ∧ W.cell? ⟨X0, 4, none⟩ = some (.slice (some ⟨g2, 0, none⟩) np np) ∧ W.cell? ⟨X0, 5, none⟩ = some (.slice (some ⟨g3, 0, none⟩) no no) ∧ W.cell? ⟨X0, 6, none⟩ = some (.slice (some ⟨g4, 0, none⟩) ny ny) ∧ W.cell? ⟨X0, 7, none⟩ = some (.slice (some ⟨g5, 0, none⟩) nt nt) ∧ W.cell? ⟨w.heap.size, 0, none⟩ = some (.string x) ∧ W.cell? ⟨w.heap.size, 1, none⟩ = some (.int .i64 z) ∧ W.cell? ⟨w.heap.size, 2, none⟩ = some (.slice ca nc cc) ∧ W.cell? ⟨w.heap.size, 3, none⟩ = some (.slice sa ns cs) ∧ W.cell? ⟨w.heap.size, 4, none⟩ = some (.slice pa np cp) ∧ W.cell? ⟨w.heap.size, 5, none⟩ = some (.slice oa no co) ∧ W.cell? ⟨w.heap.size, 6, none⟩ = some (.slice ya ny cy) ∧ W.cell? ⟨w.heap.size, 7, none⟩ = some (.slice ta nt ct)) (go_keep) (first | (go_at_call 16; refine (HTA.out _ (by first | exact HB8.out.drew | exact HB8.out)).mono ?_; rintro e w9 ⟨h9, rfl, _, hP9, hb9⟩; have X9 : Bp8 w9 w.heap.size #[.string x, .int .i64 z, .slice ca nc cc, .slice sa ns cs, .slice pa np cp, .slice oa no co, .slice ya ny cy, .slice ta nt ct] := (by first | exact HX8.out.below hb9 | exact (HX8.out.below ((Below.refl _ _).drew)).below hb9); have K9 : Bp8 w9 X0 #[.string x, .int .i64 z, .slice (some ⟨g0, 0, none⟩) nc nc, .slice (some ⟨g1, 0, none⟩) ns ns, .slice (some ⟨g2, 0, none⟩) np np, .slice (some ⟨g3, 0, none⟩) no no, .slice (some ⟨g4, 0, none⟩) ny ny, .slice (some ⟨g5, 0, none⟩) nt nt] := (by first | exact HK8.out.below hb9 | exact (HK8.out.below ((Below.refl _ _).drew)).below hb9); have P9 : PdOwn w9 ⟨x, z, nc, ns, np, no, ny, nt, C, S, P, O, Y, T⟩ (Gs.r ⟨g0, g1, g2, g3, g4, g5⟩ ⟨x, z, nc, ns, np, no, ny, nt, C, S, P, O, Y, T⟩) := (by first | exact HP8.out.below hb9 | exact (HP8.out.below ((Below.refl _ _).drew)).below hb9); have B9 : Below w.heap.size w w9 := (by first | exact HB8.out.trans (hb9.mono HB8.out.size) | exact HB8.out.drew.trans (hb9.mono HB8.out.size)); have bx0 : w9.cell? ⟨w.heap.size, 0, none⟩ = some (.string x) := X9.cell 0; have bx1 : w9.cell? ⟨w.heap.size, 1, none⟩ = some (.int .i64 z) := X9.cell 1; have bx2 : w9.cell? ⟨w.heap.size, 2, none⟩ = some (.slice ca nc cc) := X9.cell 2; have bx3 : w9.cell? ⟨w.heap.size, 3, none⟩ = some (.slice sa ns cs) := X9.cell 3; have bx4 : w9.cell? ⟨w.heap.size, 4, none⟩ = some (.slice pa np cp) := X9.cell 4; have bx5 : w9.cell? ⟨w.heap.size, 5, none⟩ = some (.slice oa no co) := X9.cell 5; have bx6 : w9.cell? ⟨w.heap.size, 6, none⟩ = some (.slice ya ny cy) := X9.cell 6; have bx7 : w9.cell? ⟨w.heap.size, 7, none⟩ = some (.slice ta nt ct) := X9.cell 7; have xa0 : w9.cell? ⟨X0, 0, none⟩ = some (.string x) := K9.cell 0; have xa1 : w9.cell? ⟨X0, 1, none⟩ = some (.int .i64 z) := K9.cell 1; have xa2 : w9.cell? ⟨X0, 2, none⟩ = some (.slice (some ⟨g0, 0, none⟩) nc nc) := K9.cell 2; have xa3 : w9.cell? ⟨X0, 3, none⟩ = some (.slice (some ⟨g1, 0, none⟩) ns ns) := K9.cell 3; have xa4 : w9.cell? ⟨X0, 4, none⟩ = some (.slice (some ⟨g2, 0, none⟩) np np) := K9.cell 4; have xa5 : w9.cell? ⟨X0, 5, none⟩ = some (.slice (some ⟨g3, 0, none⟩) no no) := K9.cell 5; have xa6 : w9.cell? ⟨X0, 6, none⟩ = some (.slice (some ⟨g4, 0, none⟩) ny ny) := K9.cell 6; have xa7 : w9.cell? ⟨X0, 7, none⟩ = some (.slice (some ⟨g5, 0, none⟩) nt nt) := K9.cell 7; have ne0 : w9.heap.size ≠ w.heap.size := (by have := X9.lt; omega); have neX : w9.heap.size ≠ X0 := (by have := K9.lt; omega)) | (go_at_call 18; refine (eq_prod ⟨x, z, nc, ns, np, no, ny, nt, C, S, P, O, Y, T⟩ (Gs.r ⟨g0, g1, g2, g3, g4, g5⟩ ⟨x, z, nc, ns, np, no, ny, nt, C, S, P, O, Y, T⟩) _ HS.out _ (by first | exact P9.at | exact P9.at.below ((Below.refl _ _).drew)) (by first | exact hP9.at | exact hP9.at.below ((Below.refl _ _).drew))).mono ?_; rintro e wa ⟨rfl, hba⟩; have Xa : Bp8 wa w.heap.size #[.string x, .int .i64 z, .slice ca nc cc, .slice sa ns cs, .slice pa np cp, .slice oa no co, .slice ya ny cy, .slice ta nt ct] := (by first | exact X9.below hba | exact (X9.below ((Below.refl _ _).drew)).below hba); have Ka : Bp8 wa X0 #[.string x, .int .i64 z, .slice (some ⟨g0, 0, none⟩) nc nc, .slice (some ⟨g1, 0, none⟩) ns ns, .slice (some ⟨g2, 0, none⟩) np np, .slice (some ⟨g3, 0, none⟩) no no, .slice (some ⟨g4, 0, none⟩) ny ny, .slice (some ⟨g5, 0, none⟩) nt nt] := (by first | exact K9.below hba | exact (K9.below ((Below.refl _ _).drew)).below hba); have bx0 : wa.cell? ⟨w.heap.size, 0, none⟩ = some (.string x) := Xa.cell 0; have bx1 : wa.cell? ⟨w.heap.size, 1, none⟩ = some (.int .i64 z) := Xa.cell 1; have bx2 : wa.cell? ⟨w.heap.size, 2, none⟩ = some (.slice ca nc cc) := Xa.cell 2; have bx3 : wa.cell? ⟨w.heap.size, 3, none⟩ = some (.slice sa ns cs) := Xa.cell 3; have bx4 : wa.cell? ⟨w.heap.size, 4, none⟩ = some (.slice pa np cp) := Xa.cell 4; have bx5 : wa.cell? ⟨w.heap.size, 5, none⟩ = some (.slice oa no co) := Xa.cell 5; have bx6 : wa.cell? ⟨w.heap.size, 6, none⟩ = some (.slice ya ny cy) := Xa.cell 6; have bx7 : wa.cell? ⟨w.heap.size, 7, none⟩ = some (.slice ta nt ct) := Xa.cell 7; have xa0 : wa.cell? ⟨X0, 0, none⟩ = some (.string x) := Ka.cell 0; have xa1 : wa.cell? ⟨X0, 1, none⟩ = some (.int .i64 z) := Ka.cell 1; have xa2 : wa.cell? ⟨X0, 2, none⟩ = some (.slice (some ⟨g0, 0, none⟩) nc nc) := Ka.cell 2; have xa3 : wa.cell? ⟨X0, 3, none⟩ = some (.slice (some ⟨g1, 0, none⟩) ns ns) := Ka.cell 3; have xa4 : wa.cell? ⟨X0, 4, none⟩ = some (.slice (some ⟨g2, 0, none⟩) np np) := Ka.cell 4; have xa5 : wa.cell? ⟨X0, 5, none⟩ = some (.slice (some ⟨g3, 0, none⟩) no no) := Ka.cell 5; have xa6 : wa.cell? ⟨X0, 6, none⟩ = some (.slice (some ⟨g4, 0, none⟩) ny ny) := Ka.cell 6; have xa7 : wa.cell? ⟨X0, 7, none⟩ = some (.slice (some ⟨g5, 0, none⟩) nt nt) := Ka.cell 7; have ne0 : wa.heap.size ≠ w.heap.size := (by have := Xa.lt; omega); have neX : wa.heap.size ≠ X0 := (by have := Ka.lt; omega)))
  all_goals
    have HBa : Hid (Below w.heap.size w wa) := (by first | exact B9.trans (hba.mono B9.size) | exact B9.drew.trans (hba.mono B9.size))
    clear Xa Ka X9 K9 P9 B9 hP9 hb9 hba bx0 bx1 bx2 bx3 bx4 bx5 bx6 bx7 xa0 xa1 xa2 xa3 xa4 xa5 xa6 xa7 ne0 neX HX8 HK8 HB8 HP8
    go_wp2_with fail
    go_ret
    exact ⟨rfl, HBa.out⟩
end Go.Proofs.YtnefcldjigndgaaDoor
