/- Arguments that are lists of texts: their cells, read out of the arguments' reading. -/
import Derived.Test.YtnefcldjigndgaaGreatDoorLines
import Derived.Deep.Slices
import Derived.ChangeArms
import Derived.OpenShut
import Derived.Lib.SmallJoins
namespace Go.Proofs.YtnefcldjigndgaaGreatDoor
open Go.ChangeShapes Go.WideShapes Go.Deep

section
variable {H : Type} {enc : TypeId × Value → H} {w : World} {base : Nat} {spare : Nat → Bool} {held : Bool}
theorem cells9 : Tryz.prog.cellsOf 9 = 1 := by kernel_rfl
theorem cells2 : Tryz.prog.cellsOf 2 = 1 := by kernel_rfl
/-- Cells of an element by its number. -/
theorem elem_cells {a : Addr} {i c : Nat} {cs : List Value} (h : w.cells? base (a.add (i * c)) c = some cs) (hc : 0 < c) : ∃ g o, a.block = g ∧ a.off = o ∧ (i = 0 → a.spot = none) ∧ ∀ k, k < c → w.cell? ⟨g, o + i * c + k, none⟩ = cs[k]? := by
  obtain ⟨_, hl, hk⟩ := World.cells?_some h
  have h0 := hk 0 hc
  obtain ⟨g, o, sp⟩ := a
  have hne : cs[0]? ≠ none := by rw [List.getElem?_eq_getElem (by omega)]; simp
  have hsp : (Addr.add ⟨g, o, sp⟩ (i * c)).spot = none := by
    cases e : w.cell? ((Addr.add ⟨g, o, sp⟩ (i * c)).add 0) with
    | none => rw [e] at h0; exact absurd h0.symm hne
    | some v => have := World.cell?_spot e; simpa [Addr.add] using this
  refine ⟨g, o, rfl, rfl, fun hi => by subst hi; simpa [Addr.add] using hsp, fun k hkc => ?_⟩
  rw [← hk k hkc]
  congr 1
  unfold Addr.add at hsp ⊢
  by_cases h1 : i * c = 0
  · rw [if_pos h1] at hsp ⊢
    simp only at hsp
    subst hsp
    split <;> simp_all
  · rw [if_neg h1]
    split <;> simp_all
instance : Inhabited Tx := ⟨⟨⟨#[]⟩⟩⟩
end
end Go.Proofs.YtnefcldjigndgaaGreatDoor
