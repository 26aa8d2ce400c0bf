/- ProductRight: the program's own. -/
import Derived.Test.YtnefcldjigndgaaDoorPrE
import Derived.Deep.RegionHeld3
namespace Go.Proofs.YtnefcldjigndgaaDoor
open Go.RowKit Go.Maps
open Go.Proofs.YtnefcldjigndgaaDoor.Draw

set_option maxRecDepth 100000 in
set_option maxHeartbeats 8000000 in
theorem impl_productRight (d : Pd) (g : Gs) (hs : d.small) (w : World) (hA : Asc w) (h : PdAt w d (g.r d)) :
    Calls Tryd.prog 17 #[.agg (prodA d (g.r d))] w fun e w' => e = .returned (.bool (prodB d)) ∧ Below w.heap.size w w' := by
  have HL : Hid (∀ W, Below w.heap.size w W → Calls Tryd.prog 26 #[] W fun e w' => ∃ b, e = .returned (.map (some b)) ∧ Lex w' b ∧ W.heap.size ≤ b ∧ Below W.heap.size W w') := fun W hb => impl_lexicon W (hA.below hb)
  have HP : Hid (∀ B W, Lex W B → Below w.heap.size w W → Calls Tryd.prog 39 #[.map (some B), .agg (prodA d (g.r d))] W fun e w' => e = .returned (.bool (prodB d)) ∧ Below W.heap.size W w') := fun B W hX hb => impl_prodRight d g hs B W hX (h.below hb)
  have HX0 : Hid (Bx8 w (w.alloc (.cells (prodA d (g.r d)) 38)) (prodA d (g.r d))) := Bx8.new _ _ _
  clear hA h hs
  generalize prodB d = ZZ at *
  obtain ⟨x, z, nc, ns, np, no, ny, nt, C, S, P, O, Y, T⟩ := d
  obtain ⟨g0, g1, g2, g3, g4, g5⟩ := g
  simp only [prodA, Gs.r] at HP HX0
  show Calls Tryd.prog 17 #[.agg #[.string x, .int .i64 z, .slice (some ⟨g0, 0, none⟩) nc nc, .slice (some ⟨g1, 0, none⟩) ns ns, .slice (some ⟨g2, 0, none⟩) np np, .slice (some ⟨g3, 0, none⟩) no no, .slice (some ⟨g4, 0, none⟩) ny ny, .slice (some ⟨g5, 0, none⟩) nt nt]] w _
  go_enter Tryd.func17, Tryd.ntmps17
  go_upto_region 1 with fail
  have X0 := HX0.out
  have HB0 : Hid (Below w.heap.size w (w.alloc (.cells #[.string x, .int .i64 z, .slice (some ⟨g0, 0, none⟩) nc nc, .slice (some ⟨g1, 0, none⟩) ns ns, .slice (some ⟨g2, 0, none⟩) np np, .slice (some ⟨g3, 0, none⟩) no no, .slice (some ⟨g4, 0, none⟩) ny ny, .slice (some ⟨g5, 0, none⟩) nt nt] 38))) := X0.bel
  go_region_held3 (fun W => W.cell? ⟨w.heap.size, 0, none⟩ = some (.string x) ∧ W.cell? ⟨w.heap.size, 1, none⟩ = some (.int .i64 z) ∧ W.cell? ⟨w.heap.size, 2, none⟩ = some (.slice (some ⟨g0, 0, none⟩) nc nc) ∧ W.cell? ⟨w.heap.size, 3, none⟩ = some (.slice (some ⟨g1, 0, none⟩) ns ns) ∧ W.cell? ⟨w.heap.size, 4, none⟩ = some (.slice (some ⟨g2, 0, none⟩) np np) ∧ W.cell? ⟨w.heap.size, 5, none⟩ = some (.slice (some ⟨g3, 0, none⟩) no no) ∧ W.cell? ⟨w.heap.size, 6, none⟩ = some (.slice (some ⟨g4, 0, none⟩) ny ny) ∧ W.cell? ⟨w.heap.size, 7, none⟩ = some (.slice (some ⟨g5, 0, none⟩) nt nt)) (go_keep) (first | (go_at_call 26; refine (HL.out _ (by first | exact HB0.out | exact HB0.out.drew)).mono ?_; rintro e w1 ⟨b, rfl, hx, _, hb⟩; have X1 : Bx8 w w1 #[.string x, .int .i64 z, .slice (some ⟨g0, 0, none⟩) nc nc, .slice (some ⟨g1, 0, none⟩) ns ns, .slice (some ⟨g2, 0, none⟩) np np, .slice (some ⟨g3, 0, none⟩) no no, .slice (some ⟨g4, 0, none⟩) ny ny, .slice (some ⟨g5, 0, none⟩) nt nt] := (by first | exact X0.next hb | exact X0.next ((Below.refl _ _).drew.trans hb)); have HX1 : Hid (Lex w1 b) := hx; clear hx; have bw10 : w1.cell? ⟨w.heap.size, 0, none⟩ = some (.string x) := X1.cell 0; have bw11 : w1.cell? ⟨w.heap.size, 1, none⟩ = some (.int .i64 z) := X1.cell 1; have bw12 : w1.cell? ⟨w.heap.size, 2, none⟩ = some (.slice (some ⟨g0, 0, none⟩) nc nc) := X1.cell 2; have bw13 : w1.cell? ⟨w.heap.size, 3, none⟩ = some (.slice (some ⟨g1, 0, none⟩) ns ns) := X1.cell 3; have bw14 : w1.cell? ⟨w.heap.size, 4, none⟩ = some (.slice (some ⟨g2, 0, none⟩) np np) := X1.cell 4; have bw15 : w1.cell? ⟨w.heap.size, 5, none⟩ = some (.slice (some ⟨g3, 0, none⟩) no no) := X1.cell 5; have bw16 : w1.cell? ⟨w.heap.size, 6, none⟩ = some (.slice (some ⟨g4, 0, none⟩) ny ny) := X1.cell 6; have bw17 : w1.cell? ⟨w.heap.size, 7, none⟩ = some (.slice (some ⟨g5, 0, none⟩) nt nt) := X1.cell 7) | (go_at_call 39; refine (HP.out _ _ (by first | exact HX1.out | exact HX1.out.below (Below.refl _ _).drew) (by first | exact X1.bel | exact X1.bel.drew)).mono ?_; rintro e w2 ⟨rfl, hb2⟩; have hx2 : Below w1.heap.size w1 w2 := (by first | exact hb2 | exact (Below.refl _ w1).drew.trans hb2); have HB2 : Hid (Below w.heap.size w w2) := X1.bel.trans (hx2.mono X1.bel.size); have X2 : Bx8 w w2 #[.string x, .int .i64 z, .slice (some ⟨g0, 0, none⟩) nc nc, .slice (some ⟨g1, 0, none⟩) ns ns, .slice (some ⟨g2, 0, none⟩) np np, .slice (some ⟨g3, 0, none⟩) no no, .slice (some ⟨g4, 0, none⟩) ny ny, .slice (some ⟨g5, 0, none⟩) nt nt] := X1.next hx2; have bw20 : w2.cell? ⟨w.heap.size, 0, none⟩ = some (.string x) := X2.cell 0; have bw21 : w2.cell? ⟨w.heap.size, 1, none⟩ = some (.int .i64 z) := X2.cell 1; have bw22 : w2.cell? ⟨w.heap.size, 2, none⟩ = some (.slice (some ⟨g0, 0, none⟩) nc nc) := X2.cell 2; have bw23 : w2.cell? ⟨w.heap.size, 3, none⟩ = some (.slice (some ⟨g1, 0, none⟩) ns ns) := X2.cell 3; have bw24 : w2.cell? ⟨w.heap.size, 4, none⟩ = some (.slice (some ⟨g2, 0, none⟩) np np) := X2.cell 4; have bw25 : w2.cell? ⟨w.heap.size, 5, none⟩ = some (.slice (some ⟨g3, 0, none⟩) no no) := X2.cell 5; have bw26 : w2.cell? ⟨w.heap.size, 6, none⟩ = some (.slice (some ⟨g4, 0, none⟩) ny ny) := X2.cell 6; have bw27 : w2.cell? ⟨w.heap.size, 7, none⟩ = some (.slice (some ⟨g5, 0, none⟩) nt nt) := X2.cell 7))
  all_goals go_wp2_with fail
  all_goals go_ret
  all_goals exact ⟨rfl, HB2.out⟩
end Go.Proofs.YtnefcldjigndgaaDoor
