/- ProductRight: the model's call, whole. -/
import Derived.Test.YtnefcldjigndgaaDoorPrI
namespace Go.Proofs.YtnefcldjigndgaaDoor
open Go.RowKit Go.Maps
open Go.Proofs.YtnefcldjigndgaaDoor.Draw

theorem spec_productRight (d : Pd) (g : Gs) (hs : d.small) (w : World) (h : PdAt w d (g.r d)) :
    Calls Tryd.prog 15 #[.agg (prodA d (g.r d))] w fun e w' => e = .returned (.bool (prodB d)) ∧ Below w.heap.size w w' := by
  cases hb : (namR d.x && (basB d.z && numsB d)) with
  | false =>
    have e : prodB d = false := by
      unfold prodB
      generalize namR d.x = a at *
      generalize basB d.z = b at *
      generalize numsB d = c at *
      cases a <;> cases b <;> cases c <;> simp_all
    rw [e]
    exact spec_refused d g hs w hb
  | true =>
    simp only [Bool.and_eq_true] at hb
    obtain ⟨h1, h2, h3⟩ := hb
    have e : prodB d = (namesB (namJ d) (d.nc + d.ns + d.np) && (parsB d.np d.P && (rightT d.O d.no && (rightT d.Y d.ny && rightT d.T d.nt)))) := by
      unfold prodB
      rw [h1, h2, h3]
      rfl
    rw [e]
    simp only [basB, numsB, Bool.and_eq_true, decide_eq_true_eq] at h2 h3
    exact spec_looked d g hs w h h1 h2.1 h2.2 h3.1 h3.2.1 h3.2.2.1 h3.2.2.2
end Go.Proofs.YtnefcldjigndgaaDoor
