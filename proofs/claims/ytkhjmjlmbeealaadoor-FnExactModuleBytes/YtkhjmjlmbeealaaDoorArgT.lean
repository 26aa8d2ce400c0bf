/- Arguments that are lists of texts: their cells, read out of the arguments' reading. -/
import Derived.Test.YtkhjmjlmbeealaaDoorLines
import Derived.Deep.Slices
import Derived.ChangeArms
import Derived.OpenShut
import Derived.Lib.SmallJoins
namespace Go.Proofs.YtkhjmjlmbeealaaDoor
open Go.ChangeShapes Go.WideShapes Go.Deep

section
variable {H : Type} {enc : TypeId × Value → H} {w : World} {base : Nat} {spare : Nat → Bool} {held : Bool}
theorem cells9 : Tryd.prog.cellsOf 9 = 1 := by kernel_rfl
theorem cells2 : Tryd.prog.cellsOf 2 = 1 := by kernel_rfl
/-- Cells of an element by its number. -/
theorem elem_cells {a : Addr} {i c : Nat} {cs : List Value} (h : w.cells? base (a.add (i * c)) c = some cs) (hc : 0 < c) : ∃ g o, a.block = g ∧ a.off = o ∧ (i = 0 → a.spot = none) ∧ ∀ k, k < c → w.cell? ⟨g, o + i * c + k, none⟩ = cs[k]? := by
  obtain ⟨_, hl, hk⟩ := World.cells?_some h
  have h0 := hk 0 hc
  obtain ⟨g, o, sp⟩ := a
  have hne : cs[0]? ≠ none := by rw [List.getElem?_eq_getElem (by omega)]; simp
  have hsp : (Addr.add ⟨g, o, sp⟩ (i * c)).spot = none := by
    cases e : w.cell? ((Addr.add ⟨g, o, sp⟩ (i * c)).add 0) with
    | none => rw [e] at h0; exact absurd h0.symm hne
    | some v => have := World.cell?_spot e; simpa [Addr.add] using this
  refine ⟨g, o, rfl, rfl, fun hi => by subst hi; simpa [Addr.add] using hsp, fun k hkc => ?_⟩
  rw [← hk k hkc]
  congr 1
  unfold Addr.add at hsp ⊢
  by_cases h1 : i * c = 0
  · rw [if_pos h1] at hsp ⊢
    simp only at hsp
    subst hsp
    split <;> simp_all
  · rw [if_neg h1]
    split <;> simp_all
instance : Inhabited Tx := ⟨⟨⟨#[]⟩⟩⟩
theorem cellsTs : Tryd.prog.cellsOf 63 = 1 := by kernel_rfl
set_option maxRecDepth 100000 in
/-- A []string that came in. -/
theorem open_texts {fuel : Nat} {cs : List Value} {x : DataW H × List MemPlace} (h : DataW.trod enc Tryd.prog w base spare held fuel 63 cs = some x) : ∃ (a : Option Addr) (n cap : Nat) (I : Nat → Tx), cs = [.slice a n cap] ∧ n ≤ maxLen ∧ (∀ i, i < n → (I i).fits) ∧ TextsAt w a n I := by
  rcases open_slice Tryd.underlying63 h with ⟨hcs, _⟩ | ⟨ad, n, cap, m, f, D, Pl, hcs, _, hl, hm, hmm, _, hx⟩
  · exact ⟨none, 0, 0, fun _ => default, hcs, by unfold maxLen; omega, fun i hi => by omega, Or.inl rfl⟩
  · have hnm : n ≤ m := by rw [hmm]; split <;> omega
    rw [cells9] at hx
    obtain ⟨I, hI⟩ := choose_lt (α := Tx) (n := n) (p := fun i l => w.cell? ⟨ad.block, ad.off + i, none⟩ = some (.string l.t) ∧ (i = 0 → ad.spot = none) ∧ l.fits) (fun i hi => by
      obtain ⟨cs', h1, h2⟩ := hx i (by omega)
      obtain ⟨s, rfl, _, hf⟩ := DataW.trod_string Tryd.underlying9 h2
      obtain ⟨g, o, rfl, rfl, hs, hk⟩ := elem_cells h1 (by omega)
      have := hk 0 (by omega)
      exact ⟨⟨s⟩, by simpa using this, hs, hf⟩)
    refine ⟨some ad, n, cap, I, hcs, by omega, fun i hi => (hI i hi).2.2, ?_⟩
    rcases Nat.eq_zero_or_pos n with h0 | hpos
    · exact Or.inl h0
    · have hsp := (hI 0 hpos).2.1 rfl
      obtain ⟨g, o, sp⟩ := ad
      simp only at hsp hI
      subst hsp
      exact Or.inr ⟨g, o, rfl, World.block_lt_of_cell? _ _ (hI 0 hpos).1, fun i hi => (hI i hi).1⟩
end
end Go.Proofs.YtkhjmjlmbeealaaDoor
