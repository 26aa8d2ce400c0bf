/- ProductRight, the model's own: what is refused at once. -/
import Derived.Test.YtnefcldjigndgaaDoorPrF
namespace Go.Proofs.YtnefcldjigndgaaDoor
open Go.RowKit Go.Maps
open Go.Proofs.YtnefcldjigndgaaDoor.Draw

set_option maxRecDepth 100000 in
set_option maxHeartbeats 8000000 in
theorem spec_refused (d : Pd) (g : Gs) (hs : d.small) (w : World) (hbad : (namR d.x && (basB d.z && numsB d)) = false) :
    Calls Tryd.prog 15 #[.agg (prodA d (g.r d))] w fun e w' => e = .returned (.bool false) ∧ Below w.heap.size w w' := by
  have HNr : Hid (∀ W, Calls Tryd.prog 35 #[.string d.x] W fun e w' => e = .returned (.bool (namR d.x)) ∧ Below W.heap.size W w') := fun W => spec_namR d.x (by have := hs.1; unfold maxLen; omega) W
  have X0 : Hid (Bx8 w (w.alloc (.cells (prodA d (g.r d)) 38)) (prodA d (g.r d))) := Bx8.new _ _ _
  unfold basB numsB at hbad
  generalize namR d.x = Z0 at *
  clear hs
  obtain ⟨x, z, nc, ns, np, no, ny, nt, C, S, P, O, Y, T⟩ := d
  obtain ⟨g0, g1, g2, g3, g4, g5⟩ := g
  simp only [prodA, Gs.r] at HNr X0 hbad
  have HX0 : True := trivial
  show Calls Tryd.prog 15 #[.agg #[.string x, .int .i64 z, .slice (some ⟨g0, 0, none⟩) nc nc, .slice (some ⟨g1, 0, none⟩) ns ns, .slice (some ⟨g2, 0, none⟩) np np, .slice (some ⟨g3, 0, none⟩) no no, .slice (some ⟨g4, 0, none⟩) ny ny, .slice (some ⟨g5, 0, none⟩) nt nt]] w _
  cases Z0
  · clear hbad
    clear HX0
    go_enter Tryd.func15, Tryd.ntmps15
    go_wp2_with fail
    refine (HNr.out _).mono ?_
    rintro e w1 ⟨rfl, hb⟩
    have X1 : Bx8 w w1 #[.string x, .int .i64 z, .slice (some ⟨g0, 0, none⟩) nc nc, .slice (some ⟨g1, 0, none⟩) ns ns, .slice (some ⟨g2, 0, none⟩) np np, .slice (some ⟨g3, 0, none⟩) no no, .slice (some ⟨g4, 0, none⟩) ny ny, .slice (some ⟨g5, 0, none⟩) nt nt] := X0.out.next hb
    have HX1 : Hid (Bx8 w w1 #[.string x, .int .i64 z, .slice (some ⟨g0, 0, none⟩) nc nc, .slice (some ⟨g1, 0, none⟩) ns ns, .slice (some ⟨g2, 0, none⟩) np np, .slice (some ⟨g3, 0, none⟩) no no, .slice (some ⟨g4, 0, none⟩) ny ny, .slice (some ⟨g5, 0, none⟩) nt nt]) := X1
    have bx1 : w1.cell? ⟨w.heap.size, 1, none⟩ = some (.int .i64 z) := X1.cell 1
    have bx2 : w1.cell? ⟨w.heap.size, 2, none⟩ = some (.slice (some ⟨g0, 0, none⟩) nc nc) := X1.cell 2
    have bx3 : w1.cell? ⟨w.heap.size, 3, none⟩ = some (.slice (some ⟨g1, 0, none⟩) ns ns) := X1.cell 3
    have bx4 : w1.cell? ⟨w.heap.size, 4, none⟩ = some (.slice (some ⟨g2, 0, none⟩) np np) := X1.cell 4
    clear X1 hb
    go_wp2_with fail
    go_ret
    exact ⟨rfl, HX1.out.bel⟩
  by_cases hz1 : 1 ≤ z
  rotate_left
  · have qz1 : decide (z < (1 : Int)) = true := by simp; omega
    clear hz1 hbad
    clear HX0
    go_enter Tryd.func15, Tryd.ntmps15
    go_wp2_with fail
    refine (HNr.out _).mono ?_
    rintro e w1 ⟨rfl, hb⟩
    have X1 : Bx8 w w1 #[.string x, .int .i64 z, .slice (some ⟨g0, 0, none⟩) nc nc, .slice (some ⟨g1, 0, none⟩) ns ns, .slice (some ⟨g2, 0, none⟩) np np, .slice (some ⟨g3, 0, none⟩) no no, .slice (some ⟨g4, 0, none⟩) ny ny, .slice (some ⟨g5, 0, none⟩) nt nt] := X0.out.next hb
    have HX1 : Hid (Bx8 w w1 #[.string x, .int .i64 z, .slice (some ⟨g0, 0, none⟩) nc nc, .slice (some ⟨g1, 0, none⟩) ns ns, .slice (some ⟨g2, 0, none⟩) np np, .slice (some ⟨g3, 0, none⟩) no no, .slice (some ⟨g4, 0, none⟩) ny ny, .slice (some ⟨g5, 0, none⟩) nt nt]) := X1
    have bx1 : w1.cell? ⟨w.heap.size, 1, none⟩ = some (.int .i64 z) := X1.cell 1
    have bx2 : w1.cell? ⟨w.heap.size, 2, none⟩ = some (.slice (some ⟨g0, 0, none⟩) nc nc) := X1.cell 2
    have bx3 : w1.cell? ⟨w.heap.size, 3, none⟩ = some (.slice (some ⟨g1, 0, none⟩) ns ns) := X1.cell 3
    have bx4 : w1.cell? ⟨w.heap.size, 4, none⟩ = some (.slice (some ⟨g2, 0, none⟩) np np) := X1.cell 4
    clear X1 hb
    go_wp2_with fail
    go_ret
    exact ⟨rfl, HX1.out.bel⟩
  have qz1 : decide (z < (1 : Int)) = false := by simp; omega
  by_cases hz3 : z ≤ 3
  rotate_left
  · have qz3 : decide ((3 : Int) < z) = true := by simp; omega
    clear hz3 hbad
    clear HX0
    go_enter Tryd.func15, Tryd.ntmps15
    go_wp2_with fail
    refine (HNr.out _).mono ?_
    rintro e w1 ⟨rfl, hb⟩
    have X1 : Bx8 w w1 #[.string x, .int .i64 z, .slice (some ⟨g0, 0, none⟩) nc nc, .slice (some ⟨g1, 0, none⟩) ns ns, .slice (some ⟨g2, 0, none⟩) np np, .slice (some ⟨g3, 0, none⟩) no no, .slice (some ⟨g4, 0, none⟩) ny ny, .slice (some ⟨g5, 0, none⟩) nt nt] := X0.out.next hb
    have HX1 : Hid (Bx8 w w1 #[.string x, .int .i64 z, .slice (some ⟨g0, 0, none⟩) nc nc, .slice (some ⟨g1, 0, none⟩) ns ns, .slice (some ⟨g2, 0, none⟩) np np, .slice (some ⟨g3, 0, none⟩) no no, .slice (some ⟨g4, 0, none⟩) ny ny, .slice (some ⟨g5, 0, none⟩) nt nt]) := X1
    have bx1 : w1.cell? ⟨w.heap.size, 1, none⟩ = some (.int .i64 z) := X1.cell 1
    have bx2 : w1.cell? ⟨w.heap.size, 2, none⟩ = some (.slice (some ⟨g0, 0, none⟩) nc nc) := X1.cell 2
    have bx3 : w1.cell? ⟨w.heap.size, 3, none⟩ = some (.slice (some ⟨g1, 0, none⟩) ns ns) := X1.cell 3
    have bx4 : w1.cell? ⟨w.heap.size, 4, none⟩ = some (.slice (some ⟨g2, 0, none⟩) np np) := X1.cell 4
    clear X1 hb
    go_wp2_with fail
    go_ret
    exact ⟨rfl, HX1.out.bel⟩
  have qz3 : decide ((3 : Int) < z) = false := by simp; omega
  by_cases hc4 : nc ≤ 4
  rotate_left
  · have qc4 : decide ((4 : Int) < (nc : Int)) = true := by simp; omega
    clear hc4 hbad
    clear HX0
    go_enter Tryd.func15, Tryd.ntmps15
    go_wp2_with fail
    refine (HNr.out _).mono ?_
    rintro e w1 ⟨rfl, hb⟩
    have X1 : Bx8 w w1 #[.string x, .int .i64 z, .slice (some ⟨g0, 0, none⟩) nc nc, .slice (some ⟨g1, 0, none⟩) ns ns, .slice (some ⟨g2, 0, none⟩) np np, .slice (some ⟨g3, 0, none⟩) no no, .slice (some ⟨g4, 0, none⟩) ny ny, .slice (some ⟨g5, 0, none⟩) nt nt] := X0.out.next hb
    have HX1 : Hid (Bx8 w w1 #[.string x, .int .i64 z, .slice (some ⟨g0, 0, none⟩) nc nc, .slice (some ⟨g1, 0, none⟩) ns ns, .slice (some ⟨g2, 0, none⟩) np np, .slice (some ⟨g3, 0, none⟩) no no, .slice (some ⟨g4, 0, none⟩) ny ny, .slice (some ⟨g5, 0, none⟩) nt nt]) := X1
    have bx1 : w1.cell? ⟨w.heap.size, 1, none⟩ = some (.int .i64 z) := X1.cell 1
    have bx2 : w1.cell? ⟨w.heap.size, 2, none⟩ = some (.slice (some ⟨g0, 0, none⟩) nc nc) := X1.cell 2
    have bx3 : w1.cell? ⟨w.heap.size, 3, none⟩ = some (.slice (some ⟨g1, 0, none⟩) ns ns) := X1.cell 3
    have bx4 : w1.cell? ⟨w.heap.size, 4, none⟩ = some (.slice (some ⟨g2, 0, none⟩) np np) := X1.cell 4
    clear X1 hb
    go_wp2_with fail
    go_ret
    exact ⟨rfl, HX1.out.bel⟩
  have qc4 : decide ((4 : Int) < (nc : Int)) = false := by simp; omega
  by_cases hs1 : 1 ≤ ns
  rotate_left
  · have qs1 : decide ((ns : Int) < (1 : Int)) = true := by simp; omega
    clear hs1 hbad
    clear HX0
    go_enter Tryd.func15, Tryd.ntmps15
    go_wp2_with fail
    refine (HNr.out _).mono ?_
    rintro e w1 ⟨rfl, hb⟩
    have X1 : Bx8 w w1 #[.string x, .int .i64 z, .slice (some ⟨g0, 0, none⟩) nc nc, .slice (some ⟨g1, 0, none⟩) ns ns, .slice (some ⟨g2, 0, none⟩) np np, .slice (some ⟨g3, 0, none⟩) no no, .slice (some ⟨g4, 0, none⟩) ny ny, .slice (some ⟨g5, 0, none⟩) nt nt] := X0.out.next hb
    have HX1 : Hid (Bx8 w w1 #[.string x, .int .i64 z, .slice (some ⟨g0, 0, none⟩) nc nc, .slice (some ⟨g1, 0, none⟩) ns ns, .slice (some ⟨g2, 0, none⟩) np np, .slice (some ⟨g3, 0, none⟩) no no, .slice (some ⟨g4, 0, none⟩) ny ny, .slice (some ⟨g5, 0, none⟩) nt nt]) := X1
    have bx1 : w1.cell? ⟨w.heap.size, 1, none⟩ = some (.int .i64 z) := X1.cell 1
    have bx2 : w1.cell? ⟨w.heap.size, 2, none⟩ = some (.slice (some ⟨g0, 0, none⟩) nc nc) := X1.cell 2
    have bx3 : w1.cell? ⟨w.heap.size, 3, none⟩ = some (.slice (some ⟨g1, 0, none⟩) ns ns) := X1.cell 3
    have bx4 : w1.cell? ⟨w.heap.size, 4, none⟩ = some (.slice (some ⟨g2, 0, none⟩) np np) := X1.cell 4
    clear X1 hb
    go_wp2_with fail
    go_ret
    exact ⟨rfl, HX1.out.bel⟩
  have qs1 : decide ((ns : Int) < (1 : Int)) = false := by simp; omega
  by_cases hs6 : ns ≤ 6
  rotate_left
  · have qs6 : decide ((6 : Int) < (ns : Int)) = true := by simp; omega
    clear hs6 hbad
    clear HX0
    go_enter Tryd.func15, Tryd.ntmps15
    go_wp2_with fail
    refine (HNr.out _).mono ?_
    rintro e w1 ⟨rfl, hb⟩
    have X1 : Bx8 w w1 #[.string x, .int .i64 z, .slice (some ⟨g0, 0, none⟩) nc nc, .slice (some ⟨g1, 0, none⟩) ns ns, .slice (some ⟨g2, 0, none⟩) np np, .slice (some ⟨g3, 0, none⟩) no no, .slice (some ⟨g4, 0, none⟩) ny ny, .slice (some ⟨g5, 0, none⟩) nt nt] := X0.out.next hb
    have HX1 : Hid (Bx8 w w1 #[.string x, .int .i64 z, .slice (some ⟨g0, 0, none⟩) nc nc, .slice (some ⟨g1, 0, none⟩) ns ns, .slice (some ⟨g2, 0, none⟩) np np, .slice (some ⟨g3, 0, none⟩) no no, .slice (some ⟨g4, 0, none⟩) ny ny, .slice (some ⟨g5, 0, none⟩) nt nt]) := X1
    have bx1 : w1.cell? ⟨w.heap.size, 1, none⟩ = some (.int .i64 z) := X1.cell 1
    have bx2 : w1.cell? ⟨w.heap.size, 2, none⟩ = some (.slice (some ⟨g0, 0, none⟩) nc nc) := X1.cell 2
    have bx3 : w1.cell? ⟨w.heap.size, 3, none⟩ = some (.slice (some ⟨g1, 0, none⟩) ns ns) := X1.cell 3
    have bx4 : w1.cell? ⟨w.heap.size, 4, none⟩ = some (.slice (some ⟨g2, 0, none⟩) np np) := X1.cell 4
    clear X1 hb
    go_wp2_with fail
    go_ret
    exact ⟨rfl, HX1.out.bel⟩
  have qs6 : decide ((6 : Int) < (ns : Int)) = false := by simp; omega
  by_cases hp8 : np ≤ 8
  rotate_left
  · have qp8 : decide ((8 : Int) < (np : Int)) = true := by simp; omega
    clear hp8 hbad
    clear HX0
    go_enter Tryd.func15, Tryd.ntmps15
    go_wp2_with fail
    refine (HNr.out _).mono ?_
    rintro e w1 ⟨rfl, hb⟩
    have X1 : Bx8 w w1 #[.string x, .int .i64 z, .slice (some ⟨g0, 0, none⟩) nc nc, .slice (some ⟨g1, 0, none⟩) ns ns, .slice (some ⟨g2, 0, none⟩) np np, .slice (some ⟨g3, 0, none⟩) no no, .slice (some ⟨g4, 0, none⟩) ny ny, .slice (some ⟨g5, 0, none⟩) nt nt] := X0.out.next hb
    have HX1 : Hid (Bx8 w w1 #[.string x, .int .i64 z, .slice (some ⟨g0, 0, none⟩) nc nc, .slice (some ⟨g1, 0, none⟩) ns ns, .slice (some ⟨g2, 0, none⟩) np np, .slice (some ⟨g3, 0, none⟩) no no, .slice (some ⟨g4, 0, none⟩) ny ny, .slice (some ⟨g5, 0, none⟩) nt nt]) := X1
    have bx1 : w1.cell? ⟨w.heap.size, 1, none⟩ = some (.int .i64 z) := X1.cell 1
    have bx2 : w1.cell? ⟨w.heap.size, 2, none⟩ = some (.slice (some ⟨g0, 0, none⟩) nc nc) := X1.cell 2
    have bx3 : w1.cell? ⟨w.heap.size, 3, none⟩ = some (.slice (some ⟨g1, 0, none⟩) ns ns) := X1.cell 3
    have bx4 : w1.cell? ⟨w.heap.size, 4, none⟩ = some (.slice (some ⟨g2, 0, none⟩) np np) := X1.cell 4
    clear X1 hb
    go_wp2_with fail
    go_ret
    exact ⟨rfl, HX1.out.bel⟩
  have qp8 : decide ((8 : Int) < (np : Int)) = false := by simp; omega
  exact absurd hbad (by simp [hz1, hz3, hc4, hs1, hs6, hp8])
end Go.Proofs.YtnefcldjigndgaaDoor
