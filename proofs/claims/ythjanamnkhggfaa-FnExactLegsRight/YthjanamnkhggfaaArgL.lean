/- Arguments that are lists of records: their cells, read out of the arguments' reading. -/
import Derived.Test.YthjanamnkhggfaaLegs
import Derived.Test.YthjanamnkhggfaaArgT
import Derived.Deep.Slices
import Derived.ChangeArms
import Derived.OpenShut
namespace Go.Proofs.Ythjanamnkhggfaa
open Go.ChangeShapes Go.WideShapes Go.Deep

section
variable {H : Type} {enc : TypeId × Value → H} {w : World} {base : Nat} {spare : Nat → Bool} {held : Bool}
theorem cellsLeg : Try.prog.cellsOf 68 = 5 := by kernel_rfl
set_option maxRecDepth 100000 in
theorem open_leg {fuel : Nat} {cs : List Value} {x : DataW H × List MemPlace} (h : DataW.trod enc Try.prog w base spare held fuel 68 cs = some x) : ∃ l : Lg, cs = [.string l.fa, .string l.fs, .string l.ta, .string l.ts, .int .i64 l.m] ∧ l.fits := by
  obtain ⟨xs, n, _, _, hlen, hxl, hx⟩ := DataW.trod_struct Try.underlying68 h
  rw [cellsLeg] at hlen
  match cs, hlen with
  | [c0, c1, c2, c3, c4], _ =>
  match xs, hxl with
  | [y0, y1, y2], _ =>
  have e0 := hx 0 _ rfl
  have e1 := hx 1 _ rfl
  have e2 := hx 2 _ rfl
  simp [cellsSpot, cells2] at e0 e1 e2
  obtain ⟨s, t, hs, m0, m1⟩ := open_spot e0
  obtain ⟨s', t', hs', m2, m3⟩ := open_spot e1
  obtain ⟨z, hz, _, _⟩ := DataW.trod_int Try.underlying2 e2
  simp at hs hs' hz
  obtain ⟨rfl, rfl⟩ := hs
  obtain ⟨rfl, rfl⟩ := hs'
  subst hz
  exact ⟨⟨s, t, s', t', z⟩, rfl, m0, m1, m2, m3⟩
instance : Inhabited Lg := ⟨⟨⟨#[]⟩, ⟨#[]⟩, ⟨#[]⟩, ⟨#[]⟩, 0⟩⟩
set_option maxRecDepth 100000 in
/-- A []Leg that came in. -/
theorem open_legs {fuel : Nat} {a : Option Addr} {n cap : Nat} {x : DataW H × List MemPlace} (h : DataW.trod enc Try.prog w base spare held fuel 34 [.slice a n cap] = some x) : ∃ L : Nat → Lg, n ≤ maxLen ∧ (∀ i, i < n → (L i).fits) ∧ LegsAt w a n L := by
  rcases open_slice Try.underlying34 h with ⟨hcs, _⟩ | ⟨ad, len, cap', m, f, D, Pl, hcs, _, hl, hm, hmm, _, hx⟩
  · simp at hcs
    obtain ⟨rfl, rfl, rfl⟩ := hcs
    exact ⟨fun _ => default, by unfold maxLen; omega, fun i hi => by omega, Or.inl rfl⟩
  · simp at hcs
    obtain ⟨rfl, rfl, rfl⟩ := hcs
    have hnm : n ≤ m := by rw [hmm]; split <;> omega
    rw [cellsLeg] at hx
    obtain ⟨L, hL⟩ := choose_lt (α := Lg) (n := n) (p := fun i l => (∀ k, k < 5 → w.cell? ⟨ad.block, ad.off + i * 5 + k, none⟩ = [Value.string l.fa, .string l.fs, .string l.ta, .string l.ts, .int .i64 l.m][k]?) ∧ (i = 0 → ad.spot = none) ∧ l.fits) (fun i hi => by
      obtain ⟨cs', h1, h2⟩ := hx i (by omega)
      obtain ⟨l, rfl, hf⟩ := open_leg h2
      obtain ⟨g, o, rfl, rfl, hs, hk⟩ := elem_cells h1 (by omega)
      exact ⟨l, hk, hs, hf⟩)
    refine ⟨L, by omega, fun i hi => (hL i hi).2.2, ?_⟩
    rcases Nat.eq_zero_or_pos n with h0 | hpos
    · exact Or.inl h0
    · have hsp := (hL 0 hpos).2.1 rfl
      obtain ⟨g, o, sp⟩ := ad
      simp only at hsp hL
      subst hsp
      refine Or.inr ⟨g, o, rfl, ?_, fun i hi => ?_⟩
      · have := (hL 0 hpos).1 0 (by omega)
        exact World.block_lt_of_cell? _ _ this
      · have hk := (hL i hi).1
        exact ⟨hk 0 (by omega), hk 1 (by omega), hk 2 (by omega), hk 3 (by omega), hk 4 (by omega)⟩
end
end Go.Proofs.Ythjanamnkhggfaa
