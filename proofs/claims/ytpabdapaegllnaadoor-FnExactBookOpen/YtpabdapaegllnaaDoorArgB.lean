/- Arguments that are books, by value: their cells, read out of the arguments' reading. -/
import Derived.Test.YtpabdapaegllnaaDoorArgT
import Derived.Test.YtpabdapaegllnaaDoorLines
import Derived.Lib.SmallJoins
namespace Go.Proofs.YtpabdapaegllnaaDoor
open Go.ChangeShapes Go.WideShapes Go.Deep

section
variable {H : Type} {enc : TypeId × Value → H} {w : World} {base : Nat} {spare : Nat → Bool} {held : Bool}
instance : Inhabited Ln := ⟨⟨⟨#[]⟩, ⟨#[]⟩, 0⟩⟩
theorem cellsLn : Tryd.prog.cellsOf 121 = 3 := by kernel_rfl
set_option maxRecDepth 100000 in
theorem open_line {fuel : Nat} {cs : List Value} {x : DataW H × List MemPlace} (h : DataW.trod enc Tryd.prog w base spare held fuel 121 cs = some x) : ∃ l : Ln, cs = [.string l.a, .string l.s, .int .i64 l.m] ∧ l.fits := by
  obtain ⟨xs, n, _, _, hlen, hxl, hx⟩ := DataW.trod_struct Tryd.underlying121 h
  rw [cellsLn] at hlen
  match cs, hlen with
  | [c0, c1, c2], _ =>
  match xs, hxl with
  | [y0, y1], _ =>
  have e0 := hx 0 _ rfl
  have e1 := hx 1 _ rfl
  simp [cellsSpot, cells2] at e0 e1
  obtain ⟨s, t, hs, m0, m1⟩ := open_spot e0
  obtain ⟨z, hz, _, _⟩ := DataW.trod_int Tryd.underlying2 e1
  simp at hs hz
  obtain ⟨rfl, rfl⟩ := hs
  subst hz
  exact ⟨⟨s, t, z⟩, rfl, m0, m1⟩
set_option maxRecDepth 100000 in
/-- A []Line that came in. -/
theorem open_lines {fuel : Nat} {cs : List Value} {x : DataW H × List MemPlace} (h : DataW.trod enc Tryd.prog w base spare held fuel 47 cs = some x) : ∃ (a : Option Addr) (n cap : Nat) (L : Nat → Ln), cs = [.slice a n cap] ∧ n ≤ maxLen ∧ (∀ i, i < n → (L i).fits) ∧ LinesAt w a n L := by
  rcases open_slice Tryd.underlying47 h with ⟨hcs, _⟩ | ⟨ad, n, cap, m, f, D, Pl, hcs, _, hl, hm, hmm, _, hx⟩
  · exact ⟨none, 0, 0, fun _ => default, hcs, by unfold maxLen; omega, fun i hi => by omega, Or.inl rfl⟩
  · have hnm : n ≤ m := by rw [hmm]; split <;> omega
    rw [cellsLn] at hx
    obtain ⟨L, hL⟩ := choose_lt (α := Ln) (n := n) (p := fun i l => (∀ k, k < 3 → w.cell? ⟨ad.block, ad.off + i * 3 + k, none⟩ = [Value.string l.a, .string l.s, .int .i64 l.m][k]?) ∧ (i = 0 → ad.spot = none) ∧ l.fits) (fun i hi => by
      obtain ⟨cs', h1, h2⟩ := hx i (by omega)
      obtain ⟨l, rfl, hf⟩ := open_line h2
      obtain ⟨g, o, rfl, rfl, hs, hk⟩ := elem_cells h1 (by omega)
      exact ⟨l, hk, hs, hf⟩)
    refine ⟨some ad, n, cap, L, hcs, by omega, fun i hi => (hL i hi).2.2, ?_⟩
    rcases Nat.eq_zero_or_pos n with h0 | hpos
    · exact Or.inl h0
    · have hsp := (hL 0 hpos).2.1 rfl
      obtain ⟨g, o, sp⟩ := ad
      simp only at hsp hL
      subst hsp
      refine Or.inr ⟨g, o, rfl, ?_, fun i hi => ?_⟩
      · have := (hL 0 hpos).1 0 (by omega)
        exact World.block_lt_of_cell? _ _ this
      · have hk := (hL i hi).1
        exact ⟨hk 0 (by omega), hk 1 (by omega), hk 2 (by omega)⟩
set_option maxRecDepth 100000 in
/-- A Spot that came in. -/
theorem open_spotv {r : Reach} {b0 : Nat} {v : Value} {d : DataW H} {p : List MemPlace} (hv : Value.okWide Tryd.prog w r b0 50 v) (h : DataW.Trod enc Tryd.prog w base spare held 50 v d p) :
    ∃ s t : ByteArray, v = .agg #[.string s, .string t] ∧ s.size ≤ maxLen ∧ t.size ≤ maxLen := by
  obtain ⟨cs, rfl, hz⟩ := okWide_struct Tryd.underlying50 hv
  obtain ⟨fuel, hf⟩ := h
  obtain ⟨s, t, hcs, h1, h2⟩ := open_spot hf
  obtain ⟨l⟩ := cs
  simp [Value.cells] at hcs
  subst hcs
  exact ⟨s, t, rfl, h1, h2⟩
theorem cellsBk : Tryd.prog.cellsOf 49 = 2 := by kernel_rfl
theorem cellsLs : Tryd.prog.cellsOf 47 = 1 := by kernel_rfl
set_option maxRecDepth 100000 in
/-- A Book that came in. -/
theorem open_book {r : Reach} {b0 : Nat} {v : Value} {d : DataW H} {p : List MemPlace} (hv : Value.okWide Tryd.prog w r b0 49 v) (h : DataW.Trod enc Tryd.prog w base spare held 49 v d p) :
    ∃ (a b : Option Addr) (n m cap cap' : Nat) (L : Nat → Ln) (I : Nat → Tx), v = .agg #[.slice a n cap, .slice b m cap'] ∧ n ≤ maxLen ∧ m ≤ maxLen ∧ (∀ i, i < n → (L i).fits) ∧ (∀ i, i < m → (I i).fits) ∧ LinesAt w a n L ∧ TextsAt w b m I := by
  obtain ⟨cs, rfl, hz⟩ := okWide_struct Tryd.underlying49 hv
  rw [cellsBk] at hz
  obtain ⟨fuel, hf⟩ := h
  obtain ⟨xs, f, _, _, _, hxl, hx⟩ := DataW.trod_struct Tryd.underlying49 hf
  obtain ⟨l⟩ := cs
  match l, hz with
  | [c0, c1], _ =>
  match xs, hxl with
  | [y0, y1], _ =>
  have e0 := hx 0 _ rfl
  have e1 := hx 1 _ rfl
  simp [Value.cells, cellsLs, cellsTs] at e0 e1
  obtain ⟨a, n, cap, L, h0, hn, hL, hA⟩ := open_lines e0
  obtain ⟨b, m, cap', I, h1, hm, hI, hB⟩ := open_texts e1
  simp at h0 h1
  subst h0 h1
  exact ⟨a, b, n, m, cap, cap', L, I, rfl, hn, hm, hL, hI, hA, hB⟩
end
end Go.Proofs.YtpabdapaegllnaaDoor
