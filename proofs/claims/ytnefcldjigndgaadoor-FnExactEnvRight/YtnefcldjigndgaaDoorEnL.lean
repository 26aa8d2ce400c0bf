/- The law of EnvRight. -/
import Derived.Test.YtnefcldjigndgaaDoorEnS
import Derived.Test.YtnefcldjigndgaaDoorPrL
namespace Go.Proofs.YtnefcldjigndgaaDoor
open Go.RowKit
open Go.Proofs.YtnefcldjigndgaaDoor.Draw

set_option maxRecDepth 100000 in
set_option maxHeartbeats 16000000 in
theorem law_envRight (d : Pd) (r : Pr) (hf : d.fits) (ea : Option Addr) (np ec : Nat) (ba : Option Addr) (nb bc : Nat) (t s c u v : Int) (T B : Nat → Int) (hp : np ≤ maxLen) (hb : nb ≤ maxLen) (w : World) (hC : Asc w) (hA : PdAt w d r) (hT : IntsAt w ea np T) (hB : IntsAt w ba nb B) :
    Calls Tryd.prog 6 #[.agg (prodA d r), .agg #[.slice ea np ec, .slice ba nb bc, .int .i64 t, .int .i64 s, .int .i64 c, .int .i64 u, .int .i64 v]] w fun e w' => e = .returned (.bool true) ∧ Below w.heap.size w w' := by
  obtain ⟨x, z, nc, ns, npr, no, ny, nt, C, S, P, O, Y, Tk⟩ := d
  obtain ⟨ca, sa, pa, oa, ya, ta, cc, cs, cp, co, cy, ct⟩ := r
  have HL : Hid (PdAt w ⟨x, z, nc, ns, npr, no, ny, nt, C, S, P, O, Y, Tk⟩ ⟨ca, sa, pa, oa, ya, ta, cc, cs, cp, co, cy, ct⟩) := hA
  have HIT : Hid (IntsAt w ea np T) := hT
  have HIB : Hid (IntsAt w ba nb B) := hB
  have HC : Hid (Asc w) := hC
  have HN : Hid (np ≤ maxLen ∧ nb ≤ maxLen) := ⟨hp, hb⟩
  have HZ : Hid (∀ (left : Nat), left ≤ 1048576 → ∀ W, Below w.heap.size w W → Calls Tryd.prog 14 #[.agg #[.string x, .int .i64 z, .slice ca nc cc, .slice sa ns cs, .slice pa npr cp, .slice oa no co, .slice ya ny cy, .slice ta nt ct], .int .i64 (left : Int)] W fun e w' => (e = .returned (.int .i64 (-1)) ∨ ∃ q : Nat, e = .returned (.int .i64 (q : Int)) ∧ q ≤ left ∧ Pd.small ⟨x, z, nc, ns, npr, no, ny, nt, C, S, P, O, Y, Tk⟩) ∧ Below W.heap.size W w') := fun left hl W hW => sz_prod ⟨x, z, nc, ns, npr, no, ny, nt, C, S, P, O, Y, Tk⟩ ⟨ca, sa, pa, oa, ya, ta, cc, cs, cp, co, cy, ct⟩ hf left hl W (HL.out.below hW)
  clear hp hb
  have HX0 : Hid (Both w ((w.alloc (.cells #[.string x, .int .i64 z, .slice ca nc cc, .slice sa ns cs, .slice pa npr cp, .slice oa no co, .slice ya ny cy, .slice ta nt ct] 33)).alloc (.cells #[.slice ea np ec, .slice ba nb bc, .int .i64 t, .int .i64 s, .int .i64 c, .int .i64 u, .int .i64 v] 44)) #[.string x, .int .i64 z, .slice ca nc cc, .slice sa ns cs, .slice pa npr cp, .slice oa no co, .slice ya ny cy, .slice ta nt ct] #[.slice ea np ec, .slice ba nb bc, .int .i64 t, .int .i64 s, .int .i64 c, .int .i64 u, .int .i64 v]) := two_now w _ _ _ _
  clear hA hT hB hf hC
  show Calls Tryd.prog 6 #[.agg #[.string x, .int .i64 z, .slice ca nc cc, .slice sa ns cs, .slice pa npr cp, .slice oa no co, .slice ya ny cy, .slice ta nt ct], .agg #[.slice ea np ec, .slice ba nb bc, .int .i64 t, .int .i64 s, .int .i64 c, .int .i64 u, .int .i64 v]] w _
  go_enter Tryd.func6, Tryd.ntmps6
  have bx0 : ((w.alloc (.cells #[.string x, .int .i64 z, .slice ca nc cc, .slice sa ns cs, .slice pa npr cp, .slice oa no co, .slice ya ny cy, .slice ta nt ct] 33)).alloc (.cells #[.slice ea np ec, .slice ba nb bc, .int .i64 t, .int .i64 s, .int .i64 c, .int .i64 u, .int .i64 v] 44)).cell? ⟨w.heap.size, 0, none⟩ = some (.string x) := HX0.out.box 0
  have bx1 : ((w.alloc (.cells #[.string x, .int .i64 z, .slice ca nc cc, .slice sa ns cs, .slice pa npr cp, .slice oa no co, .slice ya ny cy, .slice ta nt ct] 33)).alloc (.cells #[.slice ea np ec, .slice ba nb bc, .int .i64 t, .int .i64 s, .int .i64 c, .int .i64 u, .int .i64 v] 44)).cell? ⟨w.heap.size, 1, none⟩ = some (.int .i64 z) := HX0.out.box 1
  have bx2 : ((w.alloc (.cells #[.string x, .int .i64 z, .slice ca nc cc, .slice sa ns cs, .slice pa npr cp, .slice oa no co, .slice ya ny cy, .slice ta nt ct] 33)).alloc (.cells #[.slice ea np ec, .slice ba nb bc, .int .i64 t, .int .i64 s, .int .i64 c, .int .i64 u, .int .i64 v] 44)).cell? ⟨w.heap.size, 2, none⟩ = some (.slice ca nc cc) := HX0.out.box 2
  have bx3 : ((w.alloc (.cells #[.string x, .int .i64 z, .slice ca nc cc, .slice sa ns cs, .slice pa npr cp, .slice oa no co, .slice ya ny cy, .slice ta nt ct] 33)).alloc (.cells #[.slice ea np ec, .slice ba nb bc, .int .i64 t, .int .i64 s, .int .i64 c, .int .i64 u, .int .i64 v] 44)).cell? ⟨w.heap.size, 3, none⟩ = some (.slice sa ns cs) := HX0.out.box 3
  have bx4 : ((w.alloc (.cells #[.string x, .int .i64 z, .slice ca nc cc, .slice sa ns cs, .slice pa npr cp, .slice oa no co, .slice ya ny cy, .slice ta nt ct] 33)).alloc (.cells #[.slice ea np ec, .slice ba nb bc, .int .i64 t, .int .i64 s, .int .i64 c, .int .i64 u, .int .i64 v] 44)).cell? ⟨w.heap.size, 4, none⟩ = some (.slice pa npr cp) := HX0.out.box 4
  have bx5 : ((w.alloc (.cells #[.string x, .int .i64 z, .slice ca nc cc, .slice sa ns cs, .slice pa npr cp, .slice oa no co, .slice ya ny cy, .slice ta nt ct] 33)).alloc (.cells #[.slice ea np ec, .slice ba nb bc, .int .i64 t, .int .i64 s, .int .i64 c, .int .i64 u, .int .i64 v] 44)).cell? ⟨w.heap.size, 5, none⟩ = some (.slice oa no co) := HX0.out.box 5
  have bx6 : ((w.alloc (.cells #[.string x, .int .i64 z, .slice ca nc cc, .slice sa ns cs, .slice pa npr cp, .slice oa no co, .slice ya ny cy, .slice ta nt ct] 33)).alloc (.cells #[.slice ea np ec, .slice ba nb bc, .int .i64 t, .int .i64 s, .int .i64 c, .int .i64 u, .int .i64 v] 44)).cell? ⟨w.heap.size, 6, none⟩ = some (.slice ya ny cy) := HX0.out.box 6
  have bx7 : ((w.alloc (.cells #[.string x, .int .i64 z, .slice ca nc cc, .slice sa ns cs, .slice pa npr cp, .slice oa no co, .slice ya ny cy, .slice ta nt ct] 33)).alloc (.cells #[.slice ea np ec, .slice ba nb bc, .int .i64 t, .int .i64 s, .int .i64 c, .int .i64 u, .int .i64 v] 44)).cell? ⟨w.heap.size, 7, none⟩ = some (.slice ta nt ct) := HX0.out.box 7
  go_wp2_with fail
  refine (HZ.out 1048576 (by omega) _ HX0.out.bel).mono ?_
  rintro e w1 ⟨he, hb⟩
  have HX1 : Hid (Both w w1 #[.string x, .int .i64 z, .slice ca nc cc, .slice sa ns cs, .slice pa npr cp, .slice oa no co, .slice ya ny cy, .slice ta nt ct] #[.slice ea np ec, .slice ba nb bc, .int .i64 t, .int .i64 s, .int .i64 c, .int .i64 u, .int .i64 v]) := HX0.out.next hb
  clear hb HX0 bx0 bx1 bx2 bx3 bx4 bx5 bx6 bx7
  rcases he with rfl | ⟨q, rfl, hq, hsm⟩
  · have q1 : decide ((-1 : Int) < 0) = true := rfl
    have HB1 := HX1.out.bel
    have HB1 : Hid (Below w.heap.size w w1) := HB1
    go_wp2_with fail
    go_ret
    exact ⟨rfl, HB1.out⟩
  have q1 : decide ((q : Int) < 0) = false := by simp
  have HS : Hid (Pd.small ⟨x, z, nc, ns, npr, no, ny, nt, C, S, P, O, Y, Tk⟩) := hsm
  clear hsm HZ
  have ry0 : w1.cell? ⟨w.heap.size + 1, 0, none⟩ = some (.slice ea np ec) := HX1.out.res 0
  have ry1 : w1.cell? ⟨w.heap.size + 1, 1, none⟩ = some (.slice ba nb bc) := HX1.out.res 1
  have ry2 : w1.cell? ⟨w.heap.size + 1, 2, none⟩ = some (.int .i64 t) := HX1.out.res 2
  have ry3 : w1.cell? ⟨w.heap.size + 1, 3, none⟩ = some (.int .i64 s) := HX1.out.res 3
  have ry4 : w1.cell? ⟨w.heap.size + 1, 4, none⟩ = some (.int .i64 c) := HX1.out.res 4
  have ry5 : w1.cell? ⟨w.heap.size + 1, 5, none⟩ = some (.int .i64 u) := HX1.out.res 5
  have ry6 : w1.cell? ⟨w.heap.size + 1, 6, none⟩ = some (.int .i64 v) := HX1.out.res 6
  go_wp2_with fail
  refine (sz_env ea np ec ba nb bc t s c u v HN.out.1 HN.out.2 q (by omega) _).mono ?_
  rintro e w2 ⟨he, hb⟩
  have HX2 : Hid (Both w w2 #[.string x, .int .i64 z, .slice ca nc cc, .slice sa ns cs, .slice pa npr cp, .slice oa no co, .slice ya ny cy, .slice ta nt ct] #[.slice ea np ec, .slice ba nb bc, .int .i64 t, .int .i64 s, .int .i64 c, .int .i64 u, .int .i64 v]) := HX1.out.next hb
  clear hb HX1 ry0 ry1 ry2 ry3 ry4 ry5 ry6
  rcases he with rfl | ⟨q2, rfl, hq2, hpl, hbl⟩
  · have q3 : decide ((-1 : Int) < 0) = true := rfl
    have HB1 : Hid (Below w.heap.size w w2) := HX2.out.bel
    go_wp2_with fail
    go_ret
    exact ⟨rfl, HB1.out⟩
  have q3 : decide ((q2 : Int) < 0) = false := by simp
  have hpl : np ≤ 1048576 := by omega
  have hbl : nb ≤ 1048576 := by omega
  have HTA : Hid (∀ W, Below w.heap.size w W → Calls Tryd.prog 16 #[.agg #[.string x, .int .i64 z, .slice ca nc cc, .slice sa ns cs, .slice pa npr cp, .slice oa no co, .slice ya ny cy, .slice ta nt ct]] W fun e w' => ∃ g : Gs, e = .returned (.agg (prodA ⟨x, z, nc, ns, npr, no, ny, nt, C, S, P, O, Y, Tk⟩ (g.r ⟨x, z, nc, ns, npr, no, ny, nt, C, S, P, O, Y, Tk⟩))) ∧ g.ok W.heap.size w'.heap.size ∧ PdOwn w' ⟨x, z, nc, ns, npr, no, ny, nt, C, S, P, O, Y, Tk⟩ (g.r ⟨x, z, nc, ns, npr, no, ny, nt, C, S, P, O, Y, Tk⟩) ∧ Below W.heap.size W w') := fun W hW => to_prod ⟨x, z, nc, ns, npr, no, ny, nt, C, S, P, O, Y, Tk⟩ ⟨ca, sa, pa, oa, ya, ta, cc, cs, cp, co, cy, ct⟩ HS.out W (HL.out.below hW)
  have HTE : Hid (∀ W, Below w.heap.size w W → Calls Tryd.prog 21 #[.agg #[.slice ea np ec, .slice ba nb bc, .int .i64 t, .int .i64 s, .int .i64 c, .int .i64 u, .int .i64 v]] W fun e w' => ∃ e0 e1, e = .returned (.agg #[.slice (some ⟨e0, 0, none⟩) np np, .slice (some ⟨e1, 0, none⟩) nb nb, .int .i64 t, .int .i64 s, .int .i64 c, .int .i64 u, .int .i64 v]) ∧ W.heap.size ≤ e0 ∧ e0 < e1 ∧ e1 < w'.heap.size ∧ OwnR w' (some ⟨e0, 0, none⟩) np 1 (numF T) ∧ OwnR w' (some ⟨e1, 0, none⟩) nb 1 (numF B) ∧ Below W.heap.size W w') := fun W hW => to_env ea np ec ba nb bc t s c u v T B hpl hbl W (HIT.out.below hW) (HIB.out.below hW)
  obtain ⟨V, hV⟩ : ∃ V, (prodB ⟨x, z, nc, ns, npr, no, ny, nt, C, S, P, O, Y, Tk⟩ && envQ ⟨x, z, nc, ns, npr, no, ny, nt, C, S, P, O, Y, Tk⟩ np nb T B t s c u v) = V := ⟨_, rfl⟩
  have HSP : Hid (∀ (g : Gs) (e0 e1 : Nat) W, PdAt W ⟨x, z, nc, ns, npr, no, ny, nt, C, S, P, O, Y, Tk⟩ (g.r ⟨x, z, nc, ns, npr, no, ny, nt, C, S, P, O, Y, Tk⟩) → IntsAt W (some ⟨e0, 0, none⟩) np T → IntsAt W (some ⟨e1, 0, none⟩) nb B → Calls Tryd.prog 20 #[.agg (prodA ⟨x, z, nc, ns, npr, no, ny, nt, C, S, P, O, Y, Tk⟩ (g.r ⟨x, z, nc, ns, npr, no, ny, nt, C, S, P, O, Y, Tk⟩)), .agg #[.slice (some ⟨e0, 0, none⟩) np np, .slice (some ⟨e1, 0, none⟩) nb nb, .int .i64 t, .int .i64 s, .int .i64 c, .int .i64 u, .int .i64 v]] W fun e w' => e = .returned (.bool V) ∧ Below W.heap.size W w') := fun g e0 e1 W h1 h2 h3 => by rw [← hV]; exact spec_envRight ⟨x, z, nc, ns, npr, no, ny, nt, C, S, P, O, Y, Tk⟩ g HS.out _ np np _ nb nb t s c u v T B hpl hbl W h1 h2 h3
  have HIP : Hid (∀ (g : Gs) (e0 e1 : Nat) W, Below w.heap.size w W → PdAt W ⟨x, z, nc, ns, npr, no, ny, nt, C, S, P, O, Y, Tk⟩ (g.r ⟨x, z, nc, ns, npr, no, ny, nt, C, S, P, O, Y, Tk⟩) → IntsAt W (some ⟨e0, 0, none⟩) np T → IntsAt W (some ⟨e1, 0, none⟩) nb B → Calls Tryd.prog 22 #[.agg (prodA ⟨x, z, nc, ns, npr, no, ny, nt, C, S, P, O, Y, Tk⟩ (g.r ⟨x, z, nc, ns, npr, no, ny, nt, C, S, P, O, Y, Tk⟩)), .agg #[.slice (some ⟨e0, 0, none⟩) np np, .slice (some ⟨e1, 0, none⟩) nb nb, .int .i64 t, .int .i64 s, .int .i64 c, .int .i64 u, .int .i64 v]] W fun e w' => e = .returned (.bool V) ∧ Below W.heap.size W w') := fun g e0 e1 W hb h1 h2 h3 => by rw [← hV]; exact impl_envRight ⟨x, z, nc, ns, npr, no, ny, nt, C, S, P, O, Y, Tk⟩ g HS.out _ np np _ nb nb t s c u v T B hpl hbl W (HC.out.below hb) h1 h2 h3
  clear hV
  have bx0 : w2.cell? ⟨w.heap.size, 0, none⟩ = some (.string x) := HX2.out.box 0
  have bx1 : w2.cell? ⟨w.heap.size, 1, none⟩ = some (.int .i64 z) := HX2.out.box 1
  have bx2 : w2.cell? ⟨w.heap.size, 2, none⟩ = some (.slice ca nc cc) := HX2.out.box 2
  have bx3 : w2.cell? ⟨w.heap.size, 3, none⟩ = some (.slice sa ns cs) := HX2.out.box 3
  have bx4 : w2.cell? ⟨w.heap.size, 4, none⟩ = some (.slice pa npr cp) := HX2.out.box 4
  have bx5 : w2.cell? ⟨w.heap.size, 5, none⟩ = some (.slice oa no co) := HX2.out.box 5
  have bx6 : w2.cell? ⟨w.heap.size, 6, none⟩ = some (.slice ya ny cy) := HX2.out.box 6
  have bx7 : w2.cell? ⟨w.heap.size, 7, none⟩ = some (.slice ta nt ct) := HX2.out.box 7
  have ry0 : w2.cell? ⟨w.heap.size + 1, 0, none⟩ = some (.slice ea np ec) := HX2.out.res 0
  have ry1 : w2.cell? ⟨w.heap.size + 1, 1, none⟩ = some (.slice ba nb bc) := HX2.out.res 1
  have ry2 : w2.cell? ⟨w.heap.size + 1, 2, none⟩ = some (.int .i64 t) := HX2.out.res 2
  have ry3 : w2.cell? ⟨w.heap.size + 1, 3, none⟩ = some (.int .i64 s) := HX2.out.res 3
  have ry4 : w2.cell? ⟨w.heap.size + 1, 4, none⟩ = some (.int .i64 c) := HX2.out.res 4
  have ry5 : w2.cell? ⟨w.heap.size + 1, 5, none⟩ = some (.int .i64 u) := HX2.out.res 5
  have ry6 : w2.cell? ⟨w.heap.size + 1, 6, none⟩ = some (.int .i64 v) := HX2.out.res 6
  have ne0 : w2.heap.size ≠ w.heap.size := by have := HX2.out.size; omega
  have ne1 : w2.heap.size ≠ w.heap.size + 1 := by have := HX2.out.size; omega
  go_upto_region 8 with fail
  go_cut [6] (fun r wx => r = .bool V ∧ Hid (Both w wx #[.string x, .int .i64 z, .slice ca nc cc, .slice sa ns cs, .slice pa npr cp, .slice oa no co, .slice ya ny cy, .slice ta nt ct] #[.slice ea np ec, .slice ba nb bc, .int .i64 t, .int .i64 s, .int .i64 c, .int .i64 u, .int .i64 v]))
  case first =>
    go_region_held3 (fun W => W.cell? ⟨w.heap.size, 0, none⟩ = some (.string x) ∧ W.cell? ⟨w.heap.size, 1, none⟩ = some (.int .i64 z) ∧ W.cell? ⟨w.heap.size, 2, none⟩ = some (.slice ca nc cc) ∧ W.cell? ⟨w.heap.size, 3, none⟩ = some (.slice sa ns cs) ∧ W.cell? ⟨w.heap.size, 4, none⟩ = some (.slice pa npr cp) ∧ W.cell? ⟨w.heap.size, 5, none⟩ = some (.slice oa no co) ∧ W.cell? ⟨w.heap.size, 6, none⟩ = some (.slice ya ny cy) ∧ W.cell? ⟨w.heap.size, 7, none⟩ = some (.slice ta nt ct) ∧ W.cell? ⟨w.heap.size + 1, 0, none⟩ = some (.slice ea np ec) ∧ W.cell? ⟨w.heap.size + 1, 1, none⟩ = some (.slice ba nb bc) ∧ W.cell? ⟨w.heap.size + 1, 2, none⟩ = some (.int .i64 t) ∧ W.cell? ⟨w.heap.size + 1, 3, none⟩ = some (.int .i64 s) ∧ W.cell? ⟨w.heap.size + 1, 4, none⟩ = some (.int .i64 c) ∧ W.cell? ⟨w.heap.size + 1, 5, none⟩ = some (.int .i64 u) ∧ W.cell? ⟨w.heap.size + 1, 6, none⟩ = some (.int .i64 v)) (go_keep) (first | (go_at_call 16; refine (HTA.out _ (by first | exact HX2.out.bel | exact HX2.out.bel.drew)).mono ?_; rintro e wa ⟨ga, rfl, _, hPa, hba⟩; have Xa : Both w wa #[.string x, .int .i64 z, .slice ca nc cc, .slice sa ns cs, .slice pa npr cp, .slice oa no co, .slice ya ny cy, .slice ta nt ct] #[.slice ea np ec, .slice ba nb bc, .int .i64 t, .int .i64 s, .int .i64 c, .int .i64 u, .int .i64 v] := (by first | exact HX2.out.next hba | exact (HX2.out.next ((Below.refl _ _).drew)).next hba); have bx0 : wa.cell? ⟨w.heap.size, 0, none⟩ = some (.string x) := Xa.box 0; have bx1 : wa.cell? ⟨w.heap.size, 1, none⟩ = some (.int .i64 z) := Xa.box 1; have bx2 : wa.cell? ⟨w.heap.size, 2, none⟩ = some (.slice ca nc cc) := Xa.box 2; have bx3 : wa.cell? ⟨w.heap.size, 3, none⟩ = some (.slice sa ns cs) := Xa.box 3; have bx4 : wa.cell? ⟨w.heap.size, 4, none⟩ = some (.slice pa npr cp) := Xa.box 4; have bx5 : wa.cell? ⟨w.heap.size, 5, none⟩ = some (.slice oa no co) := Xa.box 5; have bx6 : wa.cell? ⟨w.heap.size, 6, none⟩ = some (.slice ya ny cy) := Xa.box 6; have bx7 : wa.cell? ⟨w.heap.size, 7, none⟩ = some (.slice ta nt ct) := Xa.box 7; have ry0 : wa.cell? ⟨w.heap.size + 1, 0, none⟩ = some (.slice ea np ec) := Xa.res 0; have ry1 : wa.cell? ⟨w.heap.size + 1, 1, none⟩ = some (.slice ba nb bc) := Xa.res 1; have ry2 : wa.cell? ⟨w.heap.size + 1, 2, none⟩ = some (.int .i64 t) := Xa.res 2; have ry3 : wa.cell? ⟨w.heap.size + 1, 3, none⟩ = some (.int .i64 s) := Xa.res 3; have ry4 : wa.cell? ⟨w.heap.size + 1, 4, none⟩ = some (.int .i64 c) := Xa.res 4; have ry5 : wa.cell? ⟨w.heap.size + 1, 5, none⟩ = some (.int .i64 u) := Xa.res 5; have ry6 : wa.cell? ⟨w.heap.size + 1, 6, none⟩ = some (.int .i64 v) := Xa.res 6; have ne0 : wa.heap.size ≠ w.heap.size := (by have := Xa.size; omega); have ne1 : wa.heap.size ≠ w.heap.size + 1 := (by have := Xa.size; omega); have HPa : Hid (PdOwn wa ⟨x, z, nc, ns, npr, no, ny, nt, C, S, P, O, Y, Tk⟩ (ga.r ⟨x, z, nc, ns, npr, no, ny, nt, C, S, P, O, Y, Tk⟩)) := hPa; clear hPa) | (go_at_call 21; refine (HTE.out _ (by first | exact Xa.bel | exact Xa.bel.drew)).mono ?_; rintro e wb ⟨e0, e1, rfl, _, _, _, hN0, hN1, hbb⟩; have Xb : Both w wb #[.string x, .int .i64 z, .slice ca nc cc, .slice sa ns cs, .slice pa npr cp, .slice oa no co, .slice ya ny cy, .slice ta nt ct] #[.slice ea np ec, .slice ba nb bc, .int .i64 t, .int .i64 s, .int .i64 c, .int .i64 u, .int .i64 v] := (by first | exact Xa.next hbb | exact (Xa.next ((Below.refl _ _).drew)).next hbb); have bx0 : wb.cell? ⟨w.heap.size, 0, none⟩ = some (.string x) := Xb.box 0; have bx1 : wb.cell? ⟨w.heap.size, 1, none⟩ = some (.int .i64 z) := Xb.box 1; have bx2 : wb.cell? ⟨w.heap.size, 2, none⟩ = some (.slice ca nc cc) := Xb.box 2; have bx3 : wb.cell? ⟨w.heap.size, 3, none⟩ = some (.slice sa ns cs) := Xb.box 3; have bx4 : wb.cell? ⟨w.heap.size, 4, none⟩ = some (.slice pa npr cp) := Xb.box 4; have bx5 : wb.cell? ⟨w.heap.size, 5, none⟩ = some (.slice oa no co) := Xb.box 5; have bx6 : wb.cell? ⟨w.heap.size, 6, none⟩ = some (.slice ya ny cy) := Xb.box 6; have bx7 : wb.cell? ⟨w.heap.size, 7, none⟩ = some (.slice ta nt ct) := Xb.box 7; have ry0 : wb.cell? ⟨w.heap.size + 1, 0, none⟩ = some (.slice ea np ec) := Xb.res 0; have ry1 : wb.cell? ⟨w.heap.size + 1, 1, none⟩ = some (.slice ba nb bc) := Xb.res 1; have ry2 : wb.cell? ⟨w.heap.size + 1, 2, none⟩ = some (.int .i64 t) := Xb.res 2; have ry3 : wb.cell? ⟨w.heap.size + 1, 3, none⟩ = some (.int .i64 s) := Xb.res 3; have ry4 : wb.cell? ⟨w.heap.size + 1, 4, none⟩ = some (.int .i64 c) := Xb.res 4; have ry5 : wb.cell? ⟨w.heap.size + 1, 5, none⟩ = some (.int .i64 u) := Xb.res 5; have ry6 : wb.cell? ⟨w.heap.size + 1, 6, none⟩ = some (.int .i64 v) := Xb.res 6; have ne0 : wb.heap.size ≠ w.heap.size := (by have := Xb.size; omega); have ne1 : wb.heap.size ≠ w.heap.size + 1 := (by have := Xb.size; omega); have HPb : Hid (PdOwn wb ⟨x, z, nc, ns, npr, no, ny, nt, C, S, P, O, Y, Tk⟩ (ga.r ⟨x, z, nc, ns, npr, no, ny, nt, C, S, P, O, Y, Tk⟩)) := (by first | exact HPa.out.below hbb | exact (HPa.out.below ((Below.refl _ _).drew)).below hbb); have HNb : Hid (OwnR wb (some ⟨e0, 0, none⟩) np 1 (numF T) ∧ OwnR wb (some ⟨e1, 0, none⟩) nb 1 (numF B)) := ⟨hN0, hN1⟩; clear hN0 hN1) | (go_at_call 20; refine (HSP.out ga e0 e1 _ (by first | exact HPb.out.at | exact (HPb.out.below ((Below.refl _ _).drew)).at) (by first | exact HNb.out.1.ints | exact (HNb.out.1.below ((Below.refl _ _).drew)).ints) (by first | exact HNb.out.2.ints | exact (HNb.out.2.below ((Below.refl _ _).drew)).ints)).mono ?_; rintro e wc ⟨rfl, hbc⟩; have Xc : Both w wc #[.string x, .int .i64 z, .slice ca nc cc, .slice sa ns cs, .slice pa npr cp, .slice oa no co, .slice ya ny cy, .slice ta nt ct] #[.slice ea np ec, .slice ba nb bc, .int .i64 t, .int .i64 s, .int .i64 c, .int .i64 u, .int .i64 v] := (by first | exact Xb.next hbc | exact (Xb.next ((Below.refl _ _).drew)).next hbc); have bx0 : wc.cell? ⟨w.heap.size, 0, none⟩ = some (.string x) := Xc.box 0; have bx1 : wc.cell? ⟨w.heap.size, 1, none⟩ = some (.int .i64 z) := Xc.box 1; have bx2 : wc.cell? ⟨w.heap.size, 2, none⟩ = some (.slice ca nc cc) := Xc.box 2; have bx3 : wc.cell? ⟨w.heap.size, 3, none⟩ = some (.slice sa ns cs) := Xc.box 3; have bx4 : wc.cell? ⟨w.heap.size, 4, none⟩ = some (.slice pa npr cp) := Xc.box 4; have bx5 : wc.cell? ⟨w.heap.size, 5, none⟩ = some (.slice oa no co) := Xc.box 5; have bx6 : wc.cell? ⟨w.heap.size, 6, none⟩ = some (.slice ya ny cy) := Xc.box 6; have bx7 : wc.cell? ⟨w.heap.size, 7, none⟩ = some (.slice ta nt ct) := Xc.box 7; have ry0 : wc.cell? ⟨w.heap.size + 1, 0, none⟩ = some (.slice ea np ec) := Xc.res 0; have ry1 : wc.cell? ⟨w.heap.size + 1, 1, none⟩ = some (.slice ba nb bc) := Xc.res 1; have ry2 : wc.cell? ⟨w.heap.size + 1, 2, none⟩ = some (.int .i64 t) := Xc.res 2; have ry3 : wc.cell? ⟨w.heap.size + 1, 3, none⟩ = some (.int .i64 s) := Xc.res 3; have ry4 : wc.cell? ⟨w.heap.size + 1, 4, none⟩ = some (.int .i64 c) := Xc.res 4; have ry5 : wc.cell? ⟨w.heap.size + 1, 5, none⟩ = some (.int .i64 u) := Xc.res 5; have ry6 : wc.cell? ⟨w.heap.size + 1, 6, none⟩ = some (.int .i64 v) := Xc.res 6; have ne0 : wc.heap.size ≠ w.heap.size := (by have := Xc.size; omega); have ne1 : wc.heap.size ≠ w.heap.size + 1 := (by have := Xc.size; omega)))
    all_goals go_wp2_with fail
    all_goals go_meet
    all_goals exact ⟨rfl, by first | exact Xc | exact Xc.next ((Below.refl _ _).drew)⟩
  case rest =>
    obtain ⟨rfl, HX3⟩ := hcut
    clear HX2 HSP ne0 ne1 bx0 bx1 bx2 bx3 bx4 bx5 bx6 bx7 ry0 ry1 ry2 ry3 ry4 ry5 ry6
    have bx0 : wc.cell? ⟨w.heap.size, 0, none⟩ = some (.string x) := HX3.out.box 0
    have bx1 : wc.cell? ⟨w.heap.size, 1, none⟩ = some (.int .i64 z) := HX3.out.box 1
    have bx2 : wc.cell? ⟨w.heap.size, 2, none⟩ = some (.slice ca nc cc) := HX3.out.box 2
    have bx3 : wc.cell? ⟨w.heap.size, 3, none⟩ = some (.slice sa ns cs) := HX3.out.box 3
    have bx4 : wc.cell? ⟨w.heap.size, 4, none⟩ = some (.slice pa npr cp) := HX3.out.box 4
    have bx5 : wc.cell? ⟨w.heap.size, 5, none⟩ = some (.slice oa no co) := HX3.out.box 5
    have bx6 : wc.cell? ⟨w.heap.size, 6, none⟩ = some (.slice ya ny cy) := HX3.out.box 6
    have bx7 : wc.cell? ⟨w.heap.size, 7, none⟩ = some (.slice ta nt ct) := HX3.out.box 7
    go_wp2_with fail
    refine (HTA.out _ HX3.out.bel).mono ?_
    rintro e w4 ⟨⟨g0, g1, g2, g3, g4, g5⟩, rfl, _, hP, hb⟩
    have hal : Below w4.heap.size w4 (w4.alloc (.cells #[.string x, .int .i64 z, .slice (some ⟨g0, 0, none⟩) nc nc, .slice (some ⟨g1, 0, none⟩) ns ns, .slice (some ⟨g2, 0, none⟩) npr npr, .slice (some ⟨g3, 0, none⟩) no no, .slice (some ⟨g4, 0, none⟩) ny ny, .slice (some ⟨g5, 0, none⟩) nt nt] 38)) := (Below.refl _ _).alloc (Nat.le_refl _) _
    have hX5 := (HX3.out.next hb).next hal
    have hK5 := Bp8.new w4 #[.string x, .int .i64 z, .slice (some ⟨g0, 0, none⟩) nc nc, .slice (some ⟨g1, 0, none⟩) ns ns, .slice (some ⟨g2, 0, none⟩) npr npr, .slice (some ⟨g3, 0, none⟩) no no, .slice (some ⟨g4, 0, none⟩) ny ny, .slice (some ⟨g5, 0, none⟩) nt nt] 38
    have hP5 : PdOwn (w4.alloc (.cells #[.string x, .int .i64 z, .slice (some ⟨g0, 0, none⟩) nc nc, .slice (some ⟨g1, 0, none⟩) ns ns, .slice (some ⟨g2, 0, none⟩) npr npr, .slice (some ⟨g3, 0, none⟩) no no, .slice (some ⟨g4, 0, none⟩) ny ny, .slice (some ⟨g5, 0, none⟩) nt nt] 38)) ⟨x, z, nc, ns, npr, no, ny, nt, C, S, P, O, Y, Tk⟩ (Gs.r ⟨g0, g1, g2, g3, g4, g5⟩ ⟨x, z, nc, ns, npr, no, ny, nt, C, S, P, O, Y, Tk⟩) := hP.below hal
    clear hal hb hP HX3 bx0 bx1 bx2 bx3 bx4 bx5 bx6 bx7
    simp only [prodA, Gs.r]
    go_upto_region 10 with fail
    obtain ⟨w5, hw5⟩ : ∃ W, W = (w4.alloc (.cells #[.string x, .int .i64 z, .slice (some ⟨g0, 0, none⟩) nc nc, .slice (some ⟨g1, 0, none⟩) ns ns, .slice (some ⟨g2, 0, none⟩) npr npr, .slice (some ⟨g3, 0, none⟩) no no, .slice (some ⟨g4, 0, none⟩) ny ny, .slice (some ⟨g5, 0, none⟩) nt nt] 38)) := ⟨_, rfl⟩
    obtain ⟨X0, hX0⟩ : ∃ X, X = w4.heap.size := ⟨_, rfl⟩
    rw [← hw5] at hX5 hK5 hP5 ⊢
    rw [← hX0] at hK5 ⊢
    clear hw5 hX0
    have HX5 : Hid (Both w w5 #[.string x, .int .i64 z, .slice ca nc cc, .slice sa ns cs, .slice pa npr cp, .slice oa no co, .slice ya ny cy, .slice ta nt ct] #[.slice ea np ec, .slice ba nb bc, .int .i64 t, .int .i64 s, .int .i64 c, .int .i64 u, .int .i64 v]) := hX5
    have HK5 : Hid (Bp8 w5 X0 #[.string x, .int .i64 z, .slice (some ⟨g0, 0, none⟩) nc nc, .slice (some ⟨g1, 0, none⟩) ns ns, .slice (some ⟨g2, 0, none⟩) npr npr, .slice (some ⟨g3, 0, none⟩) no no, .slice (some ⟨g4, 0, none⟩) ny ny, .slice (some ⟨g5, 0, none⟩) nt nt]) := hK5
    have HP5 : Hid (PdOwn w5 ⟨x, z, nc, ns, npr, no, ny, nt, C, S, P, O, Y, Tk⟩ (Gs.r ⟨g0, g1, g2, g3, g4, g5⟩ ⟨x, z, nc, ns, npr, no, ny, nt, C, S, P, O, Y, Tk⟩)) := hP5
    clear hX5 hK5 hP5
    have ry0 : w5.cell? ⟨w.heap.size + 1, 0, none⟩ = some (.slice ea np ec) := HX5.out.res 0
    have ry1 : w5.cell? ⟨w.heap.size + 1, 1, none⟩ = some (.slice ba nb bc) := HX5.out.res 1
    have ry2 : w5.cell? ⟨w.heap.size + 1, 2, none⟩ = some (.int .i64 t) := HX5.out.res 2
    have ry3 : w5.cell? ⟨w.heap.size + 1, 3, none⟩ = some (.int .i64 s) := HX5.out.res 3
    have ry4 : w5.cell? ⟨w.heap.size + 1, 4, none⟩ = some (.int .i64 c) := HX5.out.res 4
    have ry5 : w5.cell? ⟨w.heap.size + 1, 5, none⟩ = some (.int .i64 u) := HX5.out.res 5
    have ry6 : w5.cell? ⟨w.heap.size + 1, 6, none⟩ = some (.int .i64 v) := HX5.out.res 6
    go_wp2_with fail
    refine (HTE.out _ HX5.out.bel).mono ?_
    rintro e w6 ⟨e0, e1, rfl, _, _, _, hN0, hN1, hb⟩
    have hal : Below w6.heap.size w6 (w6.alloc (.cells #[.slice (some ⟨e0, 0, none⟩) np np, .slice (some ⟨e1, 0, none⟩) nb nb, .int .i64 t, .int .i64 s, .int .i64 c, .int .i64 u, .int .i64 v] 47)) := (Below.refl _ _).alloc (Nat.le_refl _) _
    have hX7 := (HX5.out.next hb).next hal
    have hK7 := (HK5.out.below hb).below hal
    have hP7 : PdOwn (w6.alloc (.cells #[.slice (some ⟨e0, 0, none⟩) np np, .slice (some ⟨e1, 0, none⟩) nb nb, .int .i64 t, .int .i64 s, .int .i64 c, .int .i64 u, .int .i64 v] 47)) ⟨x, z, nc, ns, npr, no, ny, nt, C, S, P, O, Y, Tk⟩ (Gs.r ⟨g0, g1, g2, g3, g4, g5⟩ ⟨x, z, nc, ns, npr, no, ny, nt, C, S, P, O, Y, Tk⟩) := (HP5.out.below hb).below hal
    have hE7 := Bp8.new w6 #[.slice (some ⟨e0, 0, none⟩) np np, .slice (some ⟨e1, 0, none⟩) nb nb, .int .i64 t, .int .i64 s, .int .i64 c, .int .i64 u, .int .i64 v] 47
    have hN7 : OwnR (w6.alloc (.cells #[.slice (some ⟨e0, 0, none⟩) np np, .slice (some ⟨e1, 0, none⟩) nb nb, .int .i64 t, .int .i64 s, .int .i64 c, .int .i64 u, .int .i64 v] 47)) (some ⟨e0, 0, none⟩) np 1 (numF T) ∧ OwnR (w6.alloc (.cells #[.slice (some ⟨e0, 0, none⟩) np np, .slice (some ⟨e1, 0, none⟩) nb nb, .int .i64 t, .int .i64 s, .int .i64 c, .int .i64 u, .int .i64 v] 47)) (some ⟨e1, 0, none⟩) nb 1 (numF B) := ⟨hN0.below hal, hN1.below hal⟩
    clear hal hb hN0 hN1 HX5 HK5 HP5 ry0 ry1 ry2 ry3 ry4 ry5 ry6
    go_upto_region 11 with fail
    obtain ⟨w7, hw7⟩ : ∃ W, W = (w6.alloc (.cells #[.slice (some ⟨e0, 0, none⟩) np np, .slice (some ⟨e1, 0, none⟩) nb nb, .int .i64 t, .int .i64 s, .int .i64 c, .int .i64 u, .int .i64 v] 47)) := ⟨_, rfl⟩
    obtain ⟨X1, hX1⟩ : ∃ X, X = w6.heap.size := ⟨_, rfl⟩
    rw [← hw7] at hX7 hK7 hP7 hE7 hN7 ⊢
    rw [← hX1] at hE7 ⊢
    clear hw7 hX1
    have HX7 : Hid (Both w w7 #[.string x, .int .i64 z, .slice ca nc cc, .slice sa ns cs, .slice pa npr cp, .slice oa no co, .slice ya ny cy, .slice ta nt ct] #[.slice ea np ec, .slice ba nb bc, .int .i64 t, .int .i64 s, .int .i64 c, .int .i64 u, .int .i64 v]) := hX7
    have HK7 : Hid (Bp8 w7 X0 #[.string x, .int .i64 z, .slice (some ⟨g0, 0, none⟩) nc nc, .slice (some ⟨g1, 0, none⟩) ns ns, .slice (some ⟨g2, 0, none⟩) npr npr, .slice (some ⟨g3, 0, none⟩) no no, .slice (some ⟨g4, 0, none⟩) ny ny, .slice (some ⟨g5, 0, none⟩) nt nt]) := hK7
    have HP7 : Hid (PdOwn w7 ⟨x, z, nc, ns, npr, no, ny, nt, C, S, P, O, Y, Tk⟩ (Gs.r ⟨g0, g1, g2, g3, g4, g5⟩ ⟨x, z, nc, ns, npr, no, ny, nt, C, S, P, O, Y, Tk⟩)) := hP7
    have HE7 : Hid (Bp8 w7 X1 #[.slice (some ⟨e0, 0, none⟩) np np, .slice (some ⟨e1, 0, none⟩) nb nb, .int .i64 t, .int .i64 s, .int .i64 c, .int .i64 u, .int .i64 v]) := hE7
    have HN7 : Hid (OwnR w7 (some ⟨e0, 0, none⟩) np 1 (numF T) ∧ OwnR w7 (some ⟨e1, 0, none⟩) nb 1 (numF B)) := hN7
    clear hX7 hK7 hP7 hE7 hN7
    have xa0 : w7.cell? ⟨X0, 0, none⟩ = some (.string x) := HK7.out.cell 0
    have xa1 : w7.cell? ⟨X0, 1, none⟩ = some (.int .i64 z) := HK7.out.cell 1
    have xa2 : w7.cell? ⟨X0, 2, none⟩ = some (.slice (some ⟨g0, 0, none⟩) nc nc) := HK7.out.cell 2
    have xa3 : w7.cell? ⟨X0, 3, none⟩ = some (.slice (some ⟨g1, 0, none⟩) ns ns) := HK7.out.cell 3
    have xa4 : w7.cell? ⟨X0, 4, none⟩ = some (.slice (some ⟨g2, 0, none⟩) npr npr) := HK7.out.cell 4
    have xa5 : w7.cell? ⟨X0, 5, none⟩ = some (.slice (some ⟨g3, 0, none⟩) no no) := HK7.out.cell 5
    have xa6 : w7.cell? ⟨X0, 6, none⟩ = some (.slice (some ⟨g4, 0, none⟩) ny ny) := HK7.out.cell 6
    have xa7 : w7.cell? ⟨X0, 7, none⟩ = some (.slice (some ⟨g5, 0, none⟩) nt nt) := HK7.out.cell 7
    have xe0 : w7.cell? ⟨X1, 0, none⟩ = some (.slice (some ⟨e0, 0, none⟩) np np) := HE7.out.cell 0
    have xe1 : w7.cell? ⟨X1, 1, none⟩ = some (.slice (some ⟨e1, 0, none⟩) nb nb) := HE7.out.cell 1
    have xe2 : w7.cell? ⟨X1, 2, none⟩ = some (.int .i64 t) := HE7.out.cell 2
    have xe3 : w7.cell? ⟨X1, 3, none⟩ = some (.int .i64 s) := HE7.out.cell 3
    have xe4 : w7.cell? ⟨X1, 4, none⟩ = some (.int .i64 c) := HE7.out.cell 4
    have xe5 : w7.cell? ⟨X1, 5, none⟩ = some (.int .i64 u) := HE7.out.cell 5
    have xe6 : w7.cell? ⟨X1, 6, none⟩ = some (.int .i64 v) := HE7.out.cell 6
    go_wp2_with fail
    refine (HIP.out ⟨g0, g1, g2, g3, g4, g5⟩ e0 e1 _ HX7.out.bel HP7.out.at HN7.out.1.ints HN7.out.2.ints).mono ?_
    rintro e w8 ⟨rfl, hb⟩
    have HX8 : Hid (Both w w8 #[.string x, .int .i64 z, .slice ca nc cc, .slice sa ns cs, .slice pa npr cp, .slice oa no co, .slice ya ny cy, .slice ta nt ct] #[.slice ea np ec, .slice ba nb bc, .int .i64 t, .int .i64 s, .int .i64 c, .int .i64 u, .int .i64 v]) := HX7.out.next hb
    have HK8 : Hid (Bp8 w8 X0 #[.string x, .int .i64 z, .slice (some ⟨g0, 0, none⟩) nc nc, .slice (some ⟨g1, 0, none⟩) ns ns, .slice (some ⟨g2, 0, none⟩) npr npr, .slice (some ⟨g3, 0, none⟩) no no, .slice (some ⟨g4, 0, none⟩) ny ny, .slice (some ⟨g5, 0, none⟩) nt nt]) := HK7.out.below hb
    have HP8 : Hid (PdOwn w8 ⟨x, z, nc, ns, npr, no, ny, nt, C, S, P, O, Y, Tk⟩ (Gs.r ⟨g0, g1, g2, g3, g4, g5⟩ ⟨x, z, nc, ns, npr, no, ny, nt, C, S, P, O, Y, Tk⟩)) := HP7.out.below hb
    have HE8 : Hid (Bp8 w8 X1 #[.slice (some ⟨e0, 0, none⟩) np np, .slice (some ⟨e1, 0, none⟩) nb nb, .int .i64 t, .int .i64 s, .int .i64 c, .int .i64 u, .int .i64 v]) := HE7.out.below hb
    have HN8 : Hid (OwnR w8 (some ⟨e0, 0, none⟩) np 1 (numF T) ∧ OwnR w8 (some ⟨e1, 0, none⟩) nb 1 (numF B)) := ⟨HN7.out.1.below hb, HN7.out.2.below hb⟩
    clear hb HX7 HK7 HP7 HE7 HN7 HIP xa0 xa1 xa2 xa3 xa4 xa5 xa6 xa7 xe0 xe1 xe2 xe3 xe4 xe5 xe6
    have hvv : (V != V) = false := by cases V <;> rfl
    have bx0 : w8.cell? ⟨w.heap.size, 0, none⟩ = some (.string x) := HX8.out.box 0
    have bx1 : w8.cell? ⟨w.heap.size, 1, none⟩ = some (.int .i64 z) := HX8.out.box 1
    have bx2 : w8.cell? ⟨w.heap.size, 2, none⟩ = some (.slice ca nc cc) := HX8.out.box 2
    have bx3 : w8.cell? ⟨w.heap.size, 3, none⟩ = some (.slice sa ns cs) := HX8.out.box 3
    have bx4 : w8.cell? ⟨w.heap.size, 4, none⟩ = some (.slice pa npr cp) := HX8.out.box 4
    have bx5 : w8.cell? ⟨w.heap.size, 5, none⟩ = some (.slice oa no co) := HX8.out.box 5
    have bx6 : w8.cell? ⟨w.heap.size, 6, none⟩ = some (.slice ya ny cy) := HX8.out.box 6
    have bx7 : w8.cell? ⟨w.heap.size, 7, none⟩ = some (.slice ta nt ct) := HX8.out.box 7
    have xa0 : w8.cell? ⟨X0, 0, none⟩ = some (.string x) := HK8.out.cell 0
    have xa1 : w8.cell? ⟨X0, 1, none⟩ = some (.int .i64 z) := HK8.out.cell 1
    have xa2 : w8.cell? ⟨X0, 2, none⟩ = some (.slice (some ⟨g0, 0, none⟩) nc nc) := HK8.out.cell 2
    have xa3 : w8.cell? ⟨X0, 3, none⟩ = some (.slice (some ⟨g1, 0, none⟩) ns ns) := HK8.out.cell 3
    have xa4 : w8.cell? ⟨X0, 4, none⟩ = some (.slice (some ⟨g2, 0, none⟩) npr npr) := HK8.out.cell 4
    have xa5 : w8.cell? ⟨X0, 5, none⟩ = some (.slice (some ⟨g3, 0, none⟩) no no) := HK8.out.cell 5
    have xa6 : w8.cell? ⟨X0, 6, none⟩ = some (.slice (some ⟨g4, 0, none⟩) ny ny) := HK8.out.cell 6
    have xa7 : w8.cell? ⟨X0, 7, none⟩ = some (.slice (some ⟨g5, 0, none⟩) nt nt) := HK8.out.cell 7
    have ne0 : w8.heap.size ≠ w.heap.size := by have := HX8.out.size; omega
    have ne1 : w8.heap.size ≠ w.heap.size + 1 := by have := HX8.out.size; omega
    have neX : w8.heap.size ≠ X0 := by have := HK8.out.lt; omega
    go_upto_region 14 with fail
    go_cut [39] (fun r wx => r = .bool false ∧ Hid (Both w wx #[.string x, .int .i64 z, .slice ca nc cc, .slice sa ns cs, .slice pa npr cp, .slice oa no co, .slice ya ny cy, .slice ta nt ct] #[.slice ea np ec, .slice ba nb bc, .int .i64 t, .int .i64 s, .int .i64 c, .int .i64 u, .int .i64 v]) ∧ Hid (Bp8 wx X1 #[.slice (some ⟨e0, 0, none⟩) np np, .slice (some ⟨e1, 0, none⟩) nb nb, .int .i64 t, .int .i64 s, .int .i64 c, .int .i64 u, .int .i64 v]) ∧ Hid (OwnR wx (some ⟨e0, 0, none⟩) np 1 (numF T) ∧ OwnR wx (some ⟨e1, 0, none⟩) nb 1 (numF B)))
    case first =>
      go_region_held3 (fun W => W.cell? ⟨X0, 0, none⟩ = some (.string x) ∧ W.cell? ⟨X0, 1, none⟩ = some (.int .i64 z) ∧ W.cell? ⟨X0, 2, none⟩ = some (.slice (some ⟨g0, 0, none⟩) nc nc) ∧ W.cell? ⟨X0, 3, none⟩ = some (.slice (some ⟨g1, 0, none⟩) ns ns) ∧ W.cell? ⟨X0, 4, none⟩ = some (.slice (some ⟨g2, 0, none⟩) npr npr) ∧ W.cell? ⟨X0, 5, none⟩ = some (.slice (some ⟨g3, 0, none⟩) no no) ∧ W.cell? ⟨X0, 6, none⟩ = some (.slice (some ⟨g4, 0, none⟩) ny ny) ∧ W.cell? ⟨X0, 7, none⟩ = some (.slice (some ⟨g5, 0, none⟩) nt nt) ∧ W.cell? ⟨w.heap.size, 0, none⟩ = some (.string x) ∧ W.cell? ⟨w.heap.size, 1, none⟩ = some (.int .i64 z) ∧ W.cell? ⟨w.heap.size, 2, none⟩ = some (.slice ca nc cc) ∧ W.cell? ⟨w.heap.size, 3, none⟩ = some (.slice sa ns cs) ∧ W.cell? ⟨w.heap.size, 4, none⟩ = some (.slice pa npr cp) ∧ W.cell? ⟨w.heap.size, 5, none⟩ = some (.slice oa no co) ∧ W.cell? ⟨w.heap.size, 6, none⟩ = some (.slice ya ny cy) ∧ W.cell? ⟨w.heap.size, 7, none⟩ = some (.slice ta nt ct)) (go_keep) (first | (go_at_call 16; refine (HTA.out _ (by first | exact HX8.out.bel.drew | exact HX8.out.bel)).mono ?_; rintro e w9 ⟨h9, rfl, _, hP9, hb9⟩; have X9 : Both w w9 #[.string x, .int .i64 z, .slice ca nc cc, .slice sa ns cs, .slice pa npr cp, .slice oa no co, .slice ya ny cy, .slice ta nt ct] #[.slice ea np ec, .slice ba nb bc, .int .i64 t, .int .i64 s, .int .i64 c, .int .i64 u, .int .i64 v] := (by first | exact HX8.out.next hb9 | exact (HX8.out.next ((Below.refl _ _).drew)).next hb9); have K9 : Bp8 w9 X0 #[.string x, .int .i64 z, .slice (some ⟨g0, 0, none⟩) nc nc, .slice (some ⟨g1, 0, none⟩) ns ns, .slice (some ⟨g2, 0, none⟩) npr npr, .slice (some ⟨g3, 0, none⟩) no no, .slice (some ⟨g4, 0, none⟩) ny ny, .slice (some ⟨g5, 0, none⟩) nt nt] := (by first | exact HK8.out.below hb9 | exact (HK8.out.below ((Below.refl _ _).drew)).below hb9); have bx0 : w9.cell? ⟨w.heap.size, 0, none⟩ = some (.string x) := X9.box 0; have bx1 : w9.cell? ⟨w.heap.size, 1, none⟩ = some (.int .i64 z) := X9.box 1; have bx2 : w9.cell? ⟨w.heap.size, 2, none⟩ = some (.slice ca nc cc) := X9.box 2; have bx3 : w9.cell? ⟨w.heap.size, 3, none⟩ = some (.slice sa ns cs) := X9.box 3; have bx4 : w9.cell? ⟨w.heap.size, 4, none⟩ = some (.slice pa npr cp) := X9.box 4; have bx5 : w9.cell? ⟨w.heap.size, 5, none⟩ = some (.slice oa no co) := X9.box 5; have bx6 : w9.cell? ⟨w.heap.size, 6, none⟩ = some (.slice ya ny cy) := X9.box 6; have bx7 : w9.cell? ⟨w.heap.size, 7, none⟩ = some (.slice ta nt ct) := X9.box 7; have xa0 : w9.cell? ⟨X0, 0, none⟩ = some (.string x) := K9.cell 0; have xa1 : w9.cell? ⟨X0, 1, none⟩ = some (.int .i64 z) := K9.cell 1; have xa2 : w9.cell? ⟨X0, 2, none⟩ = some (.slice (some ⟨g0, 0, none⟩) nc nc) := K9.cell 2; have xa3 : w9.cell? ⟨X0, 3, none⟩ = some (.slice (some ⟨g1, 0, none⟩) ns ns) := K9.cell 3; have xa4 : w9.cell? ⟨X0, 4, none⟩ = some (.slice (some ⟨g2, 0, none⟩) npr npr) := K9.cell 4; have xa5 : w9.cell? ⟨X0, 5, none⟩ = some (.slice (some ⟨g3, 0, none⟩) no no) := K9.cell 5; have xa6 : w9.cell? ⟨X0, 6, none⟩ = some (.slice (some ⟨g4, 0, none⟩) ny ny) := K9.cell 6; have xa7 : w9.cell? ⟨X0, 7, none⟩ = some (.slice (some ⟨g5, 0, none⟩) nt nt) := K9.cell 7; have ne0 : w9.heap.size ≠ w.heap.size := (by have := X9.size; omega); have ne1 : w9.heap.size ≠ w.heap.size + 1 := (by have := X9.size; omega); have neX : w9.heap.size ≠ X0 := (by have := K9.lt; omega); have HP9 : Hid (PdOwn w9 ⟨x, z, nc, ns, npr, no, ny, nt, C, S, P, O, Y, Tk⟩ (h9.r ⟨x, z, nc, ns, npr, no, ny, nt, C, S, P, O, Y, Tk⟩)) := hP9; have HQ9 : Hid (PdOwn w9 ⟨x, z, nc, ns, npr, no, ny, nt, C, S, P, O, Y, Tk⟩ (Gs.r ⟨g0, g1, g2, g3, g4, g5⟩ ⟨x, z, nc, ns, npr, no, ny, nt, C, S, P, O, Y, Tk⟩)) := (by first | exact HP8.out.below hb9 | exact (HP8.out.below ((Below.refl _ _).drew)).below hb9); have E9 : Hid (Bp8 w9 X1 #[.slice (some ⟨e0, 0, none⟩) np np, .slice (some ⟨e1, 0, none⟩) nb nb, .int .i64 t, .int .i64 s, .int .i64 c, .int .i64 u, .int .i64 v]) := (by first | exact HE8.out.below hb9 | exact (HE8.out.below ((Below.refl _ _).drew)).below hb9); have N9 : Hid (OwnR w9 (some ⟨e0, 0, none⟩) np 1 (numF T) ∧ OwnR w9 (some ⟨e1, 0, none⟩) nb 1 (numF B)) := (by first | exact ⟨HN8.out.1.below hb9, HN8.out.2.below hb9⟩ | exact ⟨(HN8.out.1.below ((Below.refl _ _).drew)).below hb9, (HN8.out.2.below ((Below.refl _ _).drew)).below hb9⟩); clear hP9) | (go_at_call 18; refine (eq_prod ⟨x, z, nc, ns, npr, no, ny, nt, C, S, P, O, Y, Tk⟩ (Gs.r ⟨g0, g1, g2, g3, g4, g5⟩ ⟨x, z, nc, ns, npr, no, ny, nt, C, S, P, O, Y, Tk⟩) (h9.r ⟨x, z, nc, ns, npr, no, ny, nt, C, S, P, O, Y, Tk⟩) HS.out _ (by first | exact HQ9.out.at | exact (HQ9.out.below ((Below.refl _ _).drew)).at) (by first | exact HP9.out.at | exact (HP9.out.below ((Below.refl _ _).drew)).at)).mono ?_; rintro e wa ⟨rfl, hba⟩; have Xa : Both w wa #[.string x, .int .i64 z, .slice ca nc cc, .slice sa ns cs, .slice pa npr cp, .slice oa no co, .slice ya ny cy, .slice ta nt ct] #[.slice ea np ec, .slice ba nb bc, .int .i64 t, .int .i64 s, .int .i64 c, .int .i64 u, .int .i64 v] := (by first | exact X9.next hba | exact (X9.next ((Below.refl _ _).drew)).next hba); have Ka : Bp8 wa X0 #[.string x, .int .i64 z, .slice (some ⟨g0, 0, none⟩) nc nc, .slice (some ⟨g1, 0, none⟩) ns ns, .slice (some ⟨g2, 0, none⟩) npr npr, .slice (some ⟨g3, 0, none⟩) no no, .slice (some ⟨g4, 0, none⟩) ny ny, .slice (some ⟨g5, 0, none⟩) nt nt] := (by first | exact K9.below hba | exact (K9.below ((Below.refl _ _).drew)).below hba); have bx0 : wa.cell? ⟨w.heap.size, 0, none⟩ = some (.string x) := Xa.box 0; have bx1 : wa.cell? ⟨w.heap.size, 1, none⟩ = some (.int .i64 z) := Xa.box 1; have bx2 : wa.cell? ⟨w.heap.size, 2, none⟩ = some (.slice ca nc cc) := Xa.box 2; have bx3 : wa.cell? ⟨w.heap.size, 3, none⟩ = some (.slice sa ns cs) := Xa.box 3; have bx4 : wa.cell? ⟨w.heap.size, 4, none⟩ = some (.slice pa npr cp) := Xa.box 4; have bx5 : wa.cell? ⟨w.heap.size, 5, none⟩ = some (.slice oa no co) := Xa.box 5; have bx6 : wa.cell? ⟨w.heap.size, 6, none⟩ = some (.slice ya ny cy) := Xa.box 6; have bx7 : wa.cell? ⟨w.heap.size, 7, none⟩ = some (.slice ta nt ct) := Xa.box 7; have xa0 : wa.cell? ⟨X0, 0, none⟩ = some (.string x) := Ka.cell 0; have xa1 : wa.cell? ⟨X0, 1, none⟩ = some (.int .i64 z) := Ka.cell 1; have xa2 : wa.cell? ⟨X0, 2, none⟩ = some (.slice (some ⟨g0, 0, none⟩) nc nc) := Ka.cell 2; have xa3 : wa.cell? ⟨X0, 3, none⟩ = some (.slice (some ⟨g1, 0, none⟩) ns ns) := Ka.cell 3; have xa4 : wa.cell? ⟨X0, 4, none⟩ = some (.slice (some ⟨g2, 0, none⟩) npr npr) := Ka.cell 4; have xa5 : wa.cell? ⟨X0, 5, none⟩ = some (.slice (some ⟨g3, 0, none⟩) no no) := Ka.cell 5; have xa6 : wa.cell? ⟨X0, 6, none⟩ = some (.slice (some ⟨g4, 0, none⟩) ny ny) := Ka.cell 6; have xa7 : wa.cell? ⟨X0, 7, none⟩ = some (.slice (some ⟨g5, 0, none⟩) nt nt) := Ka.cell 7; have Ea : Hid (Bp8 wa X1 #[.slice (some ⟨e0, 0, none⟩) np np, .slice (some ⟨e1, 0, none⟩) nb nb, .int .i64 t, .int .i64 s, .int .i64 c, .int .i64 u, .int .i64 v]) := (by first | exact E9.out.below hba | exact (E9.out.below ((Below.refl _ _).drew)).below hba); have Na : Hid (OwnR wa (some ⟨e0, 0, none⟩) np 1 (numF T) ∧ OwnR wa (some ⟨e1, 0, none⟩) nb 1 (numF B)) := (by first | exact ⟨N9.out.1.below hba, N9.out.2.below hba⟩ | exact ⟨(N9.out.1.below ((Below.refl _ _).drew)).below hba, (N9.out.2.below ((Below.refl _ _).drew)).below hba⟩)))
      all_goals go_wp2_with fail
      all_goals go_meet
      all_goals first
        | exact ⟨rfl, Xa, Ea, Na⟩
        | exact ⟨rfl, Xa.next ((Below.refl _ _).drew), Ea.out.below ((Below.refl _ _).drew), ⟨Na.out.1.below ((Below.refl _ _).drew), Na.out.2.below ((Below.refl _ _).drew)⟩⟩
    case rest =>
      obtain ⟨rfl, HX9, HE9, HN9⟩ := hcut
      clear HX8 HK8 HP8 HE8 HN8 ne0 ne1 neX hvv bx0 bx1 bx2 bx3 bx4 bx5 bx6 bx7 xa0 xa1 xa2 xa3 xa4 xa5 xa6 xa7
      have ry0 : wc.cell? ⟨w.heap.size + 1, 0, none⟩ = some (.slice ea np ec) := HX9.out.res 0
      have ry1 : wc.cell? ⟨w.heap.size + 1, 1, none⟩ = some (.slice ba nb bc) := HX9.out.res 1
      have ry2 : wc.cell? ⟨w.heap.size + 1, 2, none⟩ = some (.int .i64 t) := HX9.out.res 2
      have ry3 : wc.cell? ⟨w.heap.size + 1, 3, none⟩ = some (.int .i64 s) := HX9.out.res 3
      have ry4 : wc.cell? ⟨w.heap.size + 1, 4, none⟩ = some (.int .i64 c) := HX9.out.res 4
      have ry5 : wc.cell? ⟨w.heap.size + 1, 5, none⟩ = some (.int .i64 u) := HX9.out.res 5
      have ry6 : wc.cell? ⟨w.heap.size + 1, 6, none⟩ = some (.int .i64 v) := HX9.out.res 6
      have xe0 : wc.cell? ⟨X1, 0, none⟩ = some (.slice (some ⟨e0, 0, none⟩) np np) := HE9.out.cell 0
      have xe1 : wc.cell? ⟨X1, 1, none⟩ = some (.slice (some ⟨e1, 0, none⟩) nb nb) := HE9.out.cell 1
      have xe2 : wc.cell? ⟨X1, 2, none⟩ = some (.int .i64 t) := HE9.out.cell 2
      have xe3 : wc.cell? ⟨X1, 3, none⟩ = some (.int .i64 s) := HE9.out.cell 3
      have xe4 : wc.cell? ⟨X1, 4, none⟩ = some (.int .i64 c) := HE9.out.cell 4
      have xe5 : wc.cell? ⟨X1, 5, none⟩ = some (.int .i64 u) := HE9.out.cell 5
      have xe6 : wc.cell? ⟨X1, 6, none⟩ = some (.int .i64 v) := HE9.out.cell 6
      have ne0 : wc.heap.size ≠ w.heap.size := by have := HX9.out.size; omega
      have ne1 : wc.heap.size ≠ w.heap.size + 1 := by have := HX9.out.size; omega
      have neX : wc.heap.size ≠ X1 := by have := HE9.out.lt; omega
      go_upto_region 16 with fail
      go_region_held3 (fun W => W.cell? ⟨X1, 0, none⟩ = some (.slice (some ⟨e0, 0, none⟩) np np) ∧ W.cell? ⟨X1, 1, none⟩ = some (.slice (some ⟨e1, 0, none⟩) nb nb) ∧ W.cell? ⟨X1, 2, none⟩ = some (.int .i64 t) ∧ W.cell? ⟨X1, 3, none⟩ = some (.int .i64 s) ∧ W.cell? ⟨X1, 4, none⟩ = some (.int .i64 c) ∧ W.cell? ⟨X1, 5, none⟩ = some (.int .i64 u) ∧ W.cell? ⟨X1, 6, none⟩ = some (.int .i64 v) ∧ W.cell? ⟨w.heap.size + 1, 0, none⟩ = some (.slice ea np ec) ∧ W.cell? ⟨w.heap.size + 1, 1, none⟩ = some (.slice ba nb bc) ∧ W.cell? ⟨w.heap.size + 1, 2, none⟩ = some (.int .i64 t) ∧ W.cell? ⟨w.heap.size + 1, 3, none⟩ = some (.int .i64 s) ∧ W.cell? ⟨w.heap.size + 1, 4, none⟩ = some (.int .i64 c) ∧ W.cell? ⟨w.heap.size + 1, 5, none⟩ = some (.int .i64 u) ∧ W.cell? ⟨w.heap.size + 1, 6, none⟩ = some (.int .i64 v)) (go_keep) (first | (go_at_call 21; refine (HTE.out _ (by first | exact HX9.out.bel.drew | exact HX9.out.bel)).mono ?_; rintro e wa ⟨f0, f1, rfl, _, _, _, hM0, hM1, hba⟩; have Xa : Both w wa #[.string x, .int .i64 z, .slice ca nc cc, .slice sa ns cs, .slice pa npr cp, .slice oa no co, .slice ya ny cy, .slice ta nt ct] #[.slice ea np ec, .slice ba nb bc, .int .i64 t, .int .i64 s, .int .i64 c, .int .i64 u, .int .i64 v] := (by first | exact HX9.out.next hba | exact (HX9.out.next ((Below.refl _ _).drew)).next hba); have Ea : Bp8 wa X1 #[.slice (some ⟨e0, 0, none⟩) np np, .slice (some ⟨e1, 0, none⟩) nb nb, .int .i64 t, .int .i64 s, .int .i64 c, .int .i64 u, .int .i64 v] := (by first | exact HE9.out.below hba | exact (HE9.out.below ((Below.refl _ _).drew)).below hba); have ry0 : wa.cell? ⟨w.heap.size + 1, 0, none⟩ = some (.slice ea np ec) := Xa.res 0; have ry1 : wa.cell? ⟨w.heap.size + 1, 1, none⟩ = some (.slice ba nb bc) := Xa.res 1; have ry2 : wa.cell? ⟨w.heap.size + 1, 2, none⟩ = some (.int .i64 t) := Xa.res 2; have ry3 : wa.cell? ⟨w.heap.size + 1, 3, none⟩ = some (.int .i64 s) := Xa.res 3; have ry4 : wa.cell? ⟨w.heap.size + 1, 4, none⟩ = some (.int .i64 c) := Xa.res 4; have ry5 : wa.cell? ⟨w.heap.size + 1, 5, none⟩ = some (.int .i64 u) := Xa.res 5; have ry6 : wa.cell? ⟨w.heap.size + 1, 6, none⟩ = some (.int .i64 v) := Xa.res 6; have xe0 : wa.cell? ⟨X1, 0, none⟩ = some (.slice (some ⟨e0, 0, none⟩) np np) := Ea.cell 0; have xe1 : wa.cell? ⟨X1, 1, none⟩ = some (.slice (some ⟨e1, 0, none⟩) nb nb) := Ea.cell 1; have xe2 : wa.cell? ⟨X1, 2, none⟩ = some (.int .i64 t) := Ea.cell 2; have xe3 : wa.cell? ⟨X1, 3, none⟩ = some (.int .i64 s) := Ea.cell 3; have xe4 : wa.cell? ⟨X1, 4, none⟩ = some (.int .i64 c) := Ea.cell 4; have xe5 : wa.cell? ⟨X1, 5, none⟩ = some (.int .i64 u) := Ea.cell 5; have xe6 : wa.cell? ⟨X1, 6, none⟩ = some (.int .i64 v) := Ea.cell 6; have ne0 : wa.heap.size ≠ w.heap.size := (by have := Xa.size; omega); have ne1 : wa.heap.size ≠ w.heap.size + 1 := (by have := Xa.size; omega); have neX : wa.heap.size ≠ X1 := (by have := Ea.lt; omega); have Na : Hid (OwnR wa (some ⟨e0, 0, none⟩) np 1 (numF T) ∧ OwnR wa (some ⟨e1, 0, none⟩) nb 1 (numF B)) := (by first | exact ⟨HN9.out.1.below hba, HN9.out.2.below hba⟩ | exact ⟨(HN9.out.1.below ((Below.refl _ _).drew)).below hba, (HN9.out.2.below ((Below.refl _ _).drew)).below hba⟩); have Ma : Hid (OwnR wa (some ⟨f0, 0, none⟩) np 1 (numF T) ∧ OwnR wa (some ⟨f1, 0, none⟩) nb 1 (numF B)) := ⟨hM0, hM1⟩; clear hM0 hM1) | (go_at_call 23; refine (eq_env _ _ np _ _ _ _ nb _ _ t s c u v T B hpl hbl _ (by first | exact Na.out.1 | exact Na.out.1.below ((Below.refl _ _).drew)) (by first | exact Ma.out.1 | exact Ma.out.1.below ((Below.refl _ _).drew)) (by first | exact Na.out.2 | exact Na.out.2.below ((Below.refl _ _).drew)) (by first | exact Ma.out.2 | exact Ma.out.2.below ((Below.refl _ _).drew))).mono ?_; rintro e wb ⟨rfl, hbb⟩; have Xb : Both w wb #[.string x, .int .i64 z, .slice ca nc cc, .slice sa ns cs, .slice pa npr cp, .slice oa no co, .slice ya ny cy, .slice ta nt ct] #[.slice ea np ec, .slice ba nb bc, .int .i64 t, .int .i64 s, .int .i64 c, .int .i64 u, .int .i64 v] := (by first | exact Xa.next hbb | exact (Xa.next ((Below.refl _ _).drew)).next hbb); have Eb : Bp8 wb X1 #[.slice (some ⟨e0, 0, none⟩) np np, .slice (some ⟨e1, 0, none⟩) nb nb, .int .i64 t, .int .i64 s, .int .i64 c, .int .i64 u, .int .i64 v] := (by first | exact Ea.below hbb | exact (Ea.below ((Below.refl _ _).drew)).below hbb); have ry0 : wb.cell? ⟨w.heap.size + 1, 0, none⟩ = some (.slice ea np ec) := Xb.res 0; have ry1 : wb.cell? ⟨w.heap.size + 1, 1, none⟩ = some (.slice ba nb bc) := Xb.res 1; have ry2 : wb.cell? ⟨w.heap.size + 1, 2, none⟩ = some (.int .i64 t) := Xb.res 2; have ry3 : wb.cell? ⟨w.heap.size + 1, 3, none⟩ = some (.int .i64 s) := Xb.res 3; have ry4 : wb.cell? ⟨w.heap.size + 1, 4, none⟩ = some (.int .i64 c) := Xb.res 4; have ry5 : wb.cell? ⟨w.heap.size + 1, 5, none⟩ = some (.int .i64 u) := Xb.res 5; have ry6 : wb.cell? ⟨w.heap.size + 1, 6, none⟩ = some (.int .i64 v) := Xb.res 6; have xe0 : wb.cell? ⟨X1, 0, none⟩ = some (.slice (some ⟨e0, 0, none⟩) np np) := Eb.cell 0; have xe1 : wb.cell? ⟨X1, 1, none⟩ = some (.slice (some ⟨e1, 0, none⟩) nb nb) := Eb.cell 1; have xe2 : wb.cell? ⟨X1, 2, none⟩ = some (.int .i64 t) := Eb.cell 2; have xe3 : wb.cell? ⟨X1, 3, none⟩ = some (.int .i64 s) := Eb.cell 3; have xe4 : wb.cell? ⟨X1, 4, none⟩ = some (.int .i64 c) := Eb.cell 4; have xe5 : wb.cell? ⟨X1, 5, none⟩ = some (.int .i64 u) := Eb.cell 5; have xe6 : wb.cell? ⟨X1, 6, none⟩ = some (.int .i64 v) := Eb.cell 6))
      all_goals
        have HBB : Hid (Below w.heap.size w wb) := Xb.bel
        go_wp2_with fail
        go_ret
        exact ⟨rfl, HBB.out⟩
end Go.Proofs.YtnefcldjigndgaaDoor
