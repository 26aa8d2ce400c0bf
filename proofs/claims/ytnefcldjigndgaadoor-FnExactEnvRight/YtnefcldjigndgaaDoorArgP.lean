/- Arguments that are nodes and products: their cells, read out of the arguments' reading. -/
import Derived.Test.YtnefcldjigndgaaDoorArgT
import Derived.Test.YtnefcldjigndgaaDoorNodes
import Derived.Test.YtnefcldjigndgaaDoorProd
namespace Go.Proofs.YtnefcldjigndgaaDoor
open Go.ChangeShapes Go.WideShapes Go.Deep

section
variable {H : Type} {enc : TypeId × Value → H} {w : World} {base : Nat} {spare : Nat → Bool} {held : Bool}
instance : Inhabited Nd := ⟨⟨0, ⟨#[]⟩, ⟨#[]⟩, 0, 0⟩⟩
theorem cellsNode : Tryd.prog.cellsOf 58 = 5 := by kernel_rfl
set_option maxRecDepth 100000 in
theorem open_node {fuel : Nat} {cs : List Value} {x : DataW H × List MemPlace} (h : DataW.trod enc Tryd.prog w base spare held fuel 58 cs = some x) : ∃ l : Nd, cs = [.int .i64 l.k, .string l.t, .string l.m, .int .i64 l.n, .int .i64 l.y] ∧ l.fits := by
  obtain ⟨xs, n, _, _, hlen, hxl, hx⟩ := DataW.trod_struct Tryd.underlying58 h
  rw [cellsNode] at hlen
  match cs, hlen with
  | [c0, c1, c2, c3, c4], _ =>
  match xs, hxl with
  | [y0, y1, y2, y3, y4], _ =>
  have e0 := hx 0 _ rfl
  have e1 := hx 1 _ rfl
  have e2 := hx 2 _ rfl
  have e3 := hx 3 _ rfl
  have e4 := hx 4 _ rfl
  simp [cells9, cells2] at e0 e1 e2 e3 e4
  obtain ⟨s0, h0, _, _⟩ := DataW.trod_int Tryd.underlying2 e0
  obtain ⟨s1, h1, _, m1⟩ := DataW.trod_string Tryd.underlying9 e1
  obtain ⟨s2, h2, _, m2⟩ := DataW.trod_string Tryd.underlying9 e2
  obtain ⟨s3, h3, _, _⟩ := DataW.trod_int Tryd.underlying2 e3
  obtain ⟨s4, h4, _, _⟩ := DataW.trod_int Tryd.underlying2 e4
  simp at h0 h1 h2 h3 h4
  subst h0 h1 h2 h3 h4
  exact ⟨⟨s0, s1, s2, s3, s4⟩, rfl, m1, m2⟩
set_option maxRecDepth 100000 in
/-- A []Node that came in. -/
theorem open_nodes {fuel : Nat} {cs : List Value} {x : DataW H × List MemPlace} (h : DataW.trod enc Tryd.prog w base spare held fuel 23 cs = some x) : ∃ (a : Option Addr) (n cap : Nat) (L : Nat → Nd), cs = [.slice a n cap] ∧ n ≤ maxLen ∧ (∀ i, i < n → (L i).fits) ∧ NodesAt w a n L := by
  rcases open_slice Tryd.underlying23 h with ⟨hcs, _⟩ | ⟨ad, n, cap, m, f, D, Pl, hcs, _, hl, hm, hmm, _, hx⟩
  · exact ⟨none, 0, 0, fun _ => default, hcs, by unfold maxLen; omega, fun i hi => by omega, Or.inl rfl⟩
  · have hnm : n ≤ m := by rw [hmm]; split <;> omega
    rw [cellsNode] at hx
    obtain ⟨L, hL⟩ := choose_lt (α := Nd) (n := n) (p := fun i l => (∀ k, k < 5 → w.cell? ⟨ad.block, ad.off + i * 5 + k, none⟩ = ([.int .i64 l.k, .string l.t, .string l.m, .int .i64 l.n, .int .i64 l.y] : List Value)[k]?) ∧ (i = 0 → ad.spot = none) ∧ l.fits) (fun i hi => by
      obtain ⟨cs', h1, h2⟩ := hx i (by omega)
      obtain ⟨l, rfl, hf⟩ := open_node h2
      obtain ⟨g, o, rfl, rfl, hs, hk⟩ := elem_cells h1 (by omega)
      exact ⟨l, hk, hs, hf⟩)
    refine ⟨some ad, n, cap, L, hcs, by omega, fun i hi => (hL i hi).2.2, ?_⟩
    rcases Nat.eq_zero_or_pos n with h0 | hpos
    · exact Or.inl h0
    · have hsp := (hL 0 hpos).2.1 rfl
      obtain ⟨g, o, sp⟩ := ad
      simp only at hsp hL
      subst hsp
      refine Or.inr ⟨g, o, rfl, ?_, fun i hi => ?_⟩
      · have := (hL 0 hpos).1 0 (by omega)
        exact World.block_lt_of_cell? _ _ this
      · have hk := (hL i hi).1
        exact ⟨hk 0 (by omega), hk 1 (by omega), hk 2 (by omega), hk 3 (by omega), hk 4 (by omega)⟩
instance : Inhabited Pm := ⟨⟨⟨#[]⟩, 0, 0, 0⟩⟩
theorem cellsParam : Tryd.prog.cellsOf 86 = 4 := by kernel_rfl
set_option maxRecDepth 100000 in
theorem open_param {fuel : Nat} {cs : List Value} {x : DataW H × List MemPlace} (h : DataW.trod enc Tryd.prog w base spare held fuel 86 cs = some x) : ∃ l : Pm, cs = [.string l.a, .int .i64 l.t, .int .i64 l.l, .int .i64 l.h] ∧ l.fits := by
  obtain ⟨xs, n, _, _, hlen, hxl, hx⟩ := DataW.trod_struct Tryd.underlying86 h
  rw [cellsParam] at hlen
  match cs, hlen with
  | [c0, c1, c2, c3], _ =>
  match xs, hxl with
  | [y0, y1, y2, y3], _ =>
  have e0 := hx 0 _ rfl
  have e1 := hx 1 _ rfl
  have e2 := hx 2 _ rfl
  have e3 := hx 3 _ rfl
  simp [cells9, cells2] at e0 e1 e2 e3
  obtain ⟨s0, h0, _, m0⟩ := DataW.trod_string Tryd.underlying9 e0
  obtain ⟨s1, h1, _, _⟩ := DataW.trod_int Tryd.underlying2 e1
  obtain ⟨s2, h2, _, _⟩ := DataW.trod_int Tryd.underlying2 e2
  obtain ⟨s3, h3, _, _⟩ := DataW.trod_int Tryd.underlying2 e3
  simp at h0 h1 h2 h3
  subst h0 h1 h2 h3
  exact ⟨⟨s0, s1, s2, s3⟩, rfl, m0⟩
set_option maxRecDepth 100000 in
/-- A []Param that came in. -/
theorem open_params {fuel : Nat} {cs : List Value} {x : DataW H × List MemPlace} (h : DataW.trod enc Tryd.prog w base spare held fuel 31 cs = some x) : ∃ (a : Option Addr) (n cap : Nat) (L : Nat → Pm), cs = [.slice a n cap] ∧ n ≤ maxLen ∧ (∀ i, i < n → (L i).fits) ∧ ParamsAt w a n L := by
  rcases open_slice Tryd.underlying31 h with ⟨hcs, _⟩ | ⟨ad, n, cap, m, f, D, Pl, hcs, _, hl, hm, hmm, _, hx⟩
  · exact ⟨none, 0, 0, fun _ => default, hcs, by unfold maxLen; omega, fun i hi => by omega, Or.inl rfl⟩
  · have hnm : n ≤ m := by rw [hmm]; split <;> omega
    rw [cellsParam] at hx
    obtain ⟨L, hL⟩ := choose_lt (α := Pm) (n := n) (p := fun i l => (∀ k, k < 4 → w.cell? ⟨ad.block, ad.off + i * 4 + k, none⟩ = ([.string l.a, .int .i64 l.t, .int .i64 l.l, .int .i64 l.h] : List Value)[k]?) ∧ (i = 0 → ad.spot = none) ∧ l.fits) (fun i hi => by
      obtain ⟨cs', h1, h2⟩ := hx i (by omega)
      obtain ⟨l, rfl, hf⟩ := open_param h2
      obtain ⟨g, o, rfl, rfl, hs, hk⟩ := elem_cells h1 (by omega)
      exact ⟨l, hk, hs, hf⟩)
    refine ⟨some ad, n, cap, L, hcs, by omega, fun i hi => (hL i hi).2.2, ?_⟩
    rcases Nat.eq_zero_or_pos n with h0 | hpos
    · exact Or.inl h0
    · have hsp := (hL 0 hpos).2.1 rfl
      obtain ⟨g, o, sp⟩ := ad
      simp only at hsp hL
      subst hsp
      refine Or.inr ⟨g, o, rfl, ?_, fun i hi => ?_⟩
      · have := (hL 0 hpos).1 0 (by omega)
        exact World.block_lt_of_cell? _ _ this
      · have hk := (hL i hi).1
        exact ⟨hk 0 (by omega), hk 1 (by omega), hk 2 (by omega), hk 3 (by omega)⟩
theorem cellsPd : Tryd.prog.cellsOf 33 = 8 := by kernel_rfl
theorem cellsPs : Tryd.prog.cellsOf 31 = 1 := by kernel_rfl
theorem cellsNs : Tryd.prog.cellsOf 23 = 1 := by kernel_rfl
set_option maxRecDepth 100000 in
set_option maxHeartbeats 1000000 in
/-- A Product that came in. -/
theorem open_prod {r : Reach} {b0 : Nat} {v : Value} {d : DataW H} {p : List MemPlace} (hv : Value.okWide Tryd.prog w r b0 33 v) (h : DataW.Trod enc Tryd.prog w base spare held 33 v d p) :
    ∃ (d : Pd) (q : Pr), v = .agg (prodA d q) ∧ d.fits ∧ PdAt w d q := by
  obtain ⟨cs, rfl, hz⟩ := okWide_struct Tryd.underlying33 hv
  rw [cellsPd] at hz
  obtain ⟨fuel, hf⟩ := h
  obtain ⟨xs, f, _, _, _, hxl, hx⟩ := DataW.trod_struct Tryd.underlying33 hf
  obtain ⟨l⟩ := cs
  match l, hz with
  | [c0, c1, c2, c3, c4, c5, c6, c7], _ =>
  match xs, hxl with
  | [y0, y1, y2, y3, y4, y5, y6, y7], _ =>
  have e0 := hx 0 _ rfl
  have e1 := hx 1 _ rfl
  have e2 := hx 2 _ rfl
  have e3 := hx 3 _ rfl
  have e4 := hx 4 _ rfl
  have e5 := hx 5 _ rfl
  have e6 := hx 6 _ rfl
  have e7 := hx 7 _ rfl
  simp [Value.cells, cells9, cells2, cellsTs, cellsPs, cellsNs] at e0 e1 e2 e3 e4 e5 e6 e7
  obtain ⟨x, h0, _, hx0⟩ := DataW.trod_string Tryd.underlying9 e0
  obtain ⟨z, h1, _, _⟩ := DataW.trod_int Tryd.underlying2 e1
  obtain ⟨ca, nc, cc, C, h2, n0, f0, a0⟩ := open_texts e2
  obtain ⟨sa, ns, cs, S, h3, n1, f1, a1⟩ := open_texts e3
  obtain ⟨pa, np, cp, P, h4, n2, f2, a2⟩ := open_params e4
  obtain ⟨oa, no, co, O, h5, n3, f3, a3⟩ := open_nodes e5
  obtain ⟨ya, ny, cy, Y, h6, n4, f4, a4⟩ := open_nodes e6
  obtain ⟨ta, nt, ct, T, h7, n5, f5, a5⟩ := open_nodes e7
  simp at h0 h1 h2 h3 h4 h5 h6 h7
  subst h0 h1 h2 h3 h4 h5 h6 h7
  exact ⟨⟨x, z, nc, ns, np, no, ny, nt, C, S, P, O, Y, T⟩, ⟨ca, sa, pa, oa, ya, ta, cc, cs, cp, co, cy, ct⟩, rfl, ⟨hx0, ⟨n0, f0⟩, ⟨n1, f1⟩, ⟨n2, f2⟩, ⟨n3, f3⟩, ⟨n4, f4⟩, ⟨n5, f5⟩⟩, ⟨a0, a1, a2, a3, a4, a5⟩⟩
end
end Go.Proofs.YtnefcldjigndgaaDoor
