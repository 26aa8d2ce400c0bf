/- Is a product right: what the program's calls do. -/
import Derived.Test.YtnefcldjigndgaaDoorPrD
namespace Go.Proofs.YtnefcldjigndgaaDoor
open Go.RowKit Go.Maps
open Go.Proofs.YtnefcldjigndgaaDoor.Draw

def numsB (d : Pd) : Bool := decide (d.nc ≤ 4) && (decide (1 ≤ d.ns) && (decide (d.ns ≤ 6) && decide (d.np ≤ 8)))
def prodB (d : Pd) : Bool := namR d.x && (basB d.z && (numsB d && (namesB (namJ d) (d.nc + d.ns + d.np) && (parsB d.np d.P && (rightT d.O d.no && (rightT d.Y d.ny && rightT d.T d.nt))))))
set_option maxRecDepth 100000 in
set_option maxHeartbeats 8000000 in
theorem impl_prodRight (d : Pd) (g : Gs) (hs : d.small) (B : Nat) (w : World) (hX : Lex w B) (hA : PdAt w d (g.r d)) :
    Calls Tryd.prog 39 #[.map (some B), .agg (prodA d (g.r d))] w fun e w' => e = .returned (.bool (prodB d)) ∧ Below w.heap.size w w' := by
  have HE : Hid (prodB d = (namR d.x && (basB d.z && (numsB d && (namesB (namJ d) (d.nc + d.ns + d.np) && (parsB d.np d.P && (rightT d.O d.no && (rightT d.Y d.ny && rightT d.T d.nt)))))))) := rfl
  have HEn : Hid (numsB d = (decide (d.nc ≤ 4) && (decide (1 ≤ d.ns) && (decide (d.ns ≤ 6) && decide (d.np ≤ 8))))) := rfl
  have HNa : Hid (d.nc ≤ 4 → 1 ≤ d.ns → d.ns ≤ 6 → d.np ≤ 8 → ∀ W, Lex W B → PdAt W d (g.r d) → Calls Tryd.prog 58 #[.map (some B), .agg (prodA d (g.r d))] W fun e w' => e = .returned (.bool (namesB (namJ d) (d.nc + d.ns + d.np))) ∧ Below W.heap.size W w') := fun a b c e W hx ha => impl_names d g hs a b c e B W hx ha
  obtain ⟨sx, ⟨n0, _⟩, ⟨n1, _⟩, ⟨n2, _⟩, ⟨n3, s3⟩, ⟨n4, s4⟩, ⟨n5, s5⟩⟩ := hs
  have HA0 : Hid (PdAt (w.alloc (.cells (prodA d (g.r d)) 38)) d (g.r d)) := hA.below ((Below.refl _ _).alloc (Nat.le_refl _) _)
  have HL0 : Hid (Lex (w.alloc (.cells (prodA d (g.r d)) 38)) B) := hX.below ((Below.refl _ _).alloc (Nat.le_refl _) _)
  have HX0 : Hid (Bx8 w (w.alloc (.cells (prodA d (g.r d)) 38)) (prodA d (g.r d))) := Bx8.new _ _ _
  have HNr : Hid (∀ W, Lex W B → Calls Tryd.prog 56 #[.map (some B), .string d.x] W fun e w' => e = .returned (.bool (namR d.x)) ∧ Below W.heap.size W w') := fun W h => impl_namR d.x (by unfold maxLen; omega) B W h
  have HBa : Hid (∀ W, Calls Tryd.prog 57 #[.int .i64 d.z] W fun e w' => e = .returned (.bool (basB d.z)) ∧ w' = W) := fun W => impl_basis d.z W
  have HPa : Hid (∀ W, PdAt W d (g.r d) → Calls Tryd.prog 59 #[.slice (g.r d).pa d.np (g.r d).cp] W fun e w' => e = .returned (.bool (parsB d.np d.P)) ∧ Below W.heap.size W w') := fun W h => impl_params (g.r d).pa d.np (g.r d).cp d.P n2 W h.2.2.1
  have HH3 : Hid (∀ W, Lex W B → PdAt W d (g.r d) → Calls Tryd.prog 31 #[.map (some B), .slice (some ⟨g.g3, 0, none⟩) d.no d.no] W fun e w' => e = .returned (.bool (rightT d.O d.no)) ∧ Below W.heap.size W w') := fun W h1 h2 => impl_hookRight g.g3 d.no d.O n3 s3 B W h1 h2.2.2.2.1
  have HH4 : Hid (∀ W, Lex W B → PdAt W d (g.r d) → Calls Tryd.prog 31 #[.map (some B), .slice (some ⟨g.g4, 0, none⟩) d.ny d.ny] W fun e w' => e = .returned (.bool (rightT d.Y d.ny)) ∧ Below W.heap.size W w') := fun W h1 h2 => impl_hookRight g.g4 d.ny d.Y n4 s4 B W h1 h2.2.2.2.2.1
  have HH5 : Hid (∀ W, Lex W B → PdAt W d (g.r d) → Calls Tryd.prog 31 #[.map (some B), .slice (some ⟨g.g5, 0, none⟩) d.nt d.nt] W fun e w' => e = .returned (.bool (rightT d.T d.nt)) ∧ Below W.heap.size W w') := fun W h1 h2 => impl_hookRight g.g5 d.nt d.T n5 s5 B W h1 h2.2.2.2.2.2
  clear hA hX s3 s4 s5 sx
  generalize prodB d = ZZ at *
  generalize namR d.x = Z0 at *
  generalize basB d.z = Z1 at *
  generalize numsB d = Z2 at *
  generalize namesB (namJ d) (d.nc + d.ns + d.np) = Z3 at *
  generalize parsB d.np d.P = Z4 at *
  generalize rightT d.O d.no = Z5 at *
  generalize rightT d.Y d.ny = Z6 at *
  generalize rightT d.T d.nt = Z7 at *
  obtain ⟨x, z, nc, ns, np, no, ny, nt, C, S, P, O, Y, T⟩ := d
  obtain ⟨g0, g1, g2, g3, g4, g5⟩ := g
  simp only [prodA, Gs.r] at HNa HA0 HL0 HX0 HNr HBa HPa HH3 HH4 HH5 HEn n0 n1 n2 n3 n4 n5
  show Calls Tryd.prog 39 #[.map (some B), .agg #[.string x, .int .i64 z, .slice (some ⟨g0, 0, none⟩) nc nc, .slice (some ⟨g1, 0, none⟩) ns ns, .slice (some ⟨g2, 0, none⟩) np np, .slice (some ⟨g3, 0, none⟩) no no, .slice (some ⟨g4, 0, none⟩) ny ny, .slice (some ⟨g5, 0, none⟩) nt nt]] w _
  go_enter Tryd.func39, Tryd.ntmps39
  go_wp2_with fail
  refine (HNr.out _ HL0.out).mono ?_
  rintro e w1 ⟨rfl, hb⟩
  have HX1 := HX0.out.next hb
  have HX1 : Hid (Bx8 w w1 _) := HX1
  have HA1 := HA0.out.below hb
  have HA1 : Hid (PdAt w1 _ _) := HA1
  have HL1 : Hid (Lex w1 B) := HL0.out.below hb
  clear hb HX0 HA0 HL0
  cases Z0
  · go_wp2_with fail
    go_ret
    exact ⟨ret_bool HE.out.symm, HX1.out.bel⟩
  have bx1 : w1.cell? ⟨w.heap.size, 1, none⟩ = some (.int .i64 z) := HX1.out.cell 1
  have bx2 : w1.cell? ⟨w.heap.size, 2, none⟩ = some (.slice (some ⟨g0, 0, none⟩) nc nc) := HX1.out.cell 2
  have bx3 : w1.cell? ⟨w.heap.size, 3, none⟩ = some (.slice (some ⟨g1, 0, none⟩) ns ns) := HX1.out.cell 3
  have bx4 : w1.cell? ⟨w.heap.size, 4, none⟩ = some (.slice (some ⟨g2, 0, none⟩) np np) := HX1.out.cell 4
  go_wp2_with fail
  refine (HBa.out _).mono ?_
  rintro e w2 ⟨rfl, rfl⟩
  cases Z1
  · go_wp2_with fail
    go_ret
    exact ⟨ret_bool HE.out.symm, HX1.out.bel⟩
  by_cases c0 : nc ≤ 4
  rotate_left
  · have q0 : decide ((4 : Int) < (nc : Int)) = true := by simp; omega
    have hz : Z2 = false := by rw [HEn.out, decide_eq_false c0]; rfl
    subst hz
    clear c0
    go_wp2_with fail
    go_ret
    exact ⟨ret_bool HE.out.symm, HX1.out.bel⟩
  have q0 : decide ((4 : Int) < (nc : Int)) = false := by simp; omega
  by_cases c1 : 1 ≤ ns
  rotate_left
  · have q1 : decide ((ns : Int) < 1) = true := by simp; omega
    have hz : Z2 = false := by rw [HEn.out, decide_eq_true c0, decide_eq_false c1]; rfl
    subst hz
    clear c1 c0
    go_wp2_with fail
    go_ret
    exact ⟨ret_bool HE.out.symm, HX1.out.bel⟩
  have q1 : decide ((ns : Int) < 1) = false := by simp; omega
  by_cases c2 : ns ≤ 6
  rotate_left
  · have q2 : decide ((6 : Int) < (ns : Int)) = true := by simp; omega
    have hz : Z2 = false := by rw [HEn.out, decide_eq_true c0, decide_eq_true c1, decide_eq_false c2]; rfl
    subst hz
    clear c2 c0 c1
    go_wp2_with fail
    go_ret
    exact ⟨ret_bool HE.out.symm, HX1.out.bel⟩
  have q2 : decide ((6 : Int) < (ns : Int)) = false := by simp; omega
  by_cases c3 : np ≤ 8
  rotate_left
  · have q3 : decide ((8 : Int) < (np : Int)) = true := by simp; omega
    have hz : Z2 = false := by rw [HEn.out, decide_eq_true c0, decide_eq_true c1, decide_eq_true c2, decide_eq_false c3]; rfl
    subst hz
    clear c3 c0 c1 c2
    go_wp2_with fail
    go_ret
    exact ⟨ret_bool HE.out.symm, HX1.out.bel⟩
  have q3 : decide ((8 : Int) < (np : Int)) = false := by simp; omega
  have hz : Z2 = true := by rw [HEn.out, decide_eq_true c0, decide_eq_true c1, decide_eq_true c2, decide_eq_true c3]; rfl
  subst hz
  have HNa := HNa.out c0 c1 c2 c3
  have HNa : Hid (∀ W, _) := HNa
  clear c0 c1 c2 c3 bx1 bx2 bx3 bx4 HEn
  have bx0 : w2.cell? ⟨w.heap.size, 0, none⟩ = some (.string x) := HX1.out.cell 0
  have bx1 : w2.cell? ⟨w.heap.size, 1, none⟩ = some (.int .i64 z) := HX1.out.cell 1
  have bx2 : w2.cell? ⟨w.heap.size, 2, none⟩ = some (.slice (some ⟨g0, 0, none⟩) nc nc) := HX1.out.cell 2
  have bx3 : w2.cell? ⟨w.heap.size, 3, none⟩ = some (.slice (some ⟨g1, 0, none⟩) ns ns) := HX1.out.cell 3
  have bx4 : w2.cell? ⟨w.heap.size, 4, none⟩ = some (.slice (some ⟨g2, 0, none⟩) np np) := HX1.out.cell 4
  have bx5 : w2.cell? ⟨w.heap.size, 5, none⟩ = some (.slice (some ⟨g3, 0, none⟩) no no) := HX1.out.cell 5
  have bx6 : w2.cell? ⟨w.heap.size, 6, none⟩ = some (.slice (some ⟨g4, 0, none⟩) ny ny) := HX1.out.cell 6
  have bx7 : w2.cell? ⟨w.heap.size, 7, none⟩ = some (.slice (some ⟨g5, 0, none⟩) nt nt) := HX1.out.cell 7
  go_wp2_with fail
  refine (HNa.out _ HL1.out HA1.out).mono ?_
  rintro e w3 ⟨rfl, hb⟩
  have HX3 := HX1.out.next hb
  have HX3 : Hid (Bx8 w w3 _) := HX3
  have HA3 := HA1.out.below hb
  have HA3 : Hid (PdAt w3 _ _) := HA3
  have HL3 : Hid (Lex w3 B) := HL1.out.below hb
  clear hb HX1 HA1 HL1 bx0 bx1 bx2 bx3 bx4 bx5 bx6 bx7
  cases Z3
  · go_wp2_with fail
    go_ret
    exact ⟨ret_bool HE.out.symm, HX3.out.bel⟩
  have bx4 : w3.cell? ⟨w.heap.size, 4, none⟩ = some (.slice (some ⟨g2, 0, none⟩) np np) := HX3.out.cell 4
  go_wp2_with fail
  refine (HPa.out _ HA3.out).mono ?_
  rintro e w4 ⟨rfl, hb⟩
  have HX4 := HX3.out.next hb
  have HX4 : Hid (Bx8 w w4 _) := HX4
  have HA4 := HA3.out.below hb
  have HA4 : Hid (PdAt w4 _ _) := HA4
  have HL4 : Hid (Lex w4 B) := HL3.out.below hb
  clear hb HX3 HA3 HL3 bx4
  cases Z4
  · go_wp2_with fail
    go_ret
    exact ⟨ret_bool HE.out.symm, HX4.out.bel⟩
  have bx5 : w4.cell? ⟨w.heap.size, 5, none⟩ = some (.slice (some ⟨g3, 0, none⟩) no no) := HX4.out.cell 5
  go_wp2_with fail
  refine (HH3.out _ HL4.out HA4.out).mono ?_
  rintro e w5 ⟨rfl, hb⟩
  have HX5 := HX4.out.next hb
  have HX5 : Hid (Bx8 w w5 _) := HX5
  have HA5 := HA4.out.below hb
  have HA5 : Hid (PdAt w5 _ _) := HA5
  have HL5 : Hid (Lex w5 B) := HL4.out.below hb
  clear hb HX4 HA4 HL4 bx5
  cases Z5
  · go_wp2_with fail
    go_ret
    exact ⟨ret_bool HE.out.symm, HX5.out.bel⟩
  have bx6 : w5.cell? ⟨w.heap.size, 6, none⟩ = some (.slice (some ⟨g4, 0, none⟩) ny ny) := HX5.out.cell 6
  go_wp2_with fail
  refine (HH4.out _ HL5.out HA5.out).mono ?_
  rintro e w6 ⟨rfl, hb⟩
  have HX6 := HX5.out.next hb
  have HX6 : Hid (Bx8 w w6 _) := HX6
  have HA6 := HA5.out.below hb
  have HA6 : Hid (PdAt w6 _ _) := HA6
  have HL6 : Hid (Lex w6 B) := HL5.out.below hb
  clear hb HX5 HA5 HL5 bx6
  cases Z6
  · go_wp2_with fail
    go_ret
    exact ⟨ret_bool HE.out.symm, HX6.out.bel⟩
  have bx7 : w6.cell? ⟨w.heap.size, 7, none⟩ = some (.slice (some ⟨g5, 0, none⟩) nt nt) := HX6.out.cell 7
  go_wp2_with fail
  refine (HH5.out _ HL6.out HA6.out).mono ?_
  rintro e w7 ⟨rfl, hb⟩
  have HX7 := HX6.out.next hb
  have HX7 : Hid (Bx8 w w7 _) := HX7
  have HA7 := HA6.out.below hb
  have HA7 : Hid (PdAt w7 _ _) := HA7
  have HL7 : Hid (Lex w7 B) := HL6.out.below hb
  clear hb HX6 HA6 HL6 bx7
  go_wp2_with fail
  go_ret
  exact ⟨ret_bool HE.out.symm, HX7.out.bel⟩
end Go.Proofs.YtnefcldjigndgaaDoor
