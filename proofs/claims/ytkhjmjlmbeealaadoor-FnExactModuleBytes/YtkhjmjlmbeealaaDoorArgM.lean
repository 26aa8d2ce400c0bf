/- Arguments that are instructions and modules: their cells, read out of the arguments' reading. -/
import Derived.Test.YtkhjmjlmbeealaaDoorArgT
import Derived.Test.YtkhjmjlmbeealaaDoorInsR
namespace Go.Proofs.YtkhjmjlmbeealaaDoor
open Go.ChangeShapes Go.WideShapes Go.Deep
open Go.Proofs.YtkhjmjlmbeealaaDoor.Draw

section
variable {H : Type} {enc : TypeId × Value → H} {w : World} {base : Nat} {spare : Nat → Bool} {held : Bool}
def In.fits (_ : In) : Prop := True
instance : Inhabited In := ⟨⟨0, 0, 0⟩⟩
theorem cellsIns : Tryd.prog.cellsOf 31 = 3 := by kernel_rfl
set_option maxRecDepth 100000 in
theorem open_ins {fuel : Nat} {cs : List Value} {x : DataW H × List MemPlace} (h : DataW.trod enc Tryd.prog w base spare held fuel 31 cs = some x) : ∃ l : In, cs = [.int .i64 l.o, .int .i64 l.a, .int .i64 l.b] ∧ l.fits := by
  obtain ⟨xs, n, _, _, hlen, hxl, hx⟩ := DataW.trod_struct Tryd.underlying31 h
  rw [cellsIns] at hlen
  match cs, hlen with
  | [c0, c1, c2], _ =>
  match xs, hxl with
  | [y0, y1, y2], _ =>
  have e0 := hx 0 _ rfl
  have e1 := hx 1 _ rfl
  have e2 := hx 2 _ rfl
  simp [cells2] at e0 e1 e2
  obtain ⟨s0, h0, _, _⟩ := DataW.trod_int Tryd.underlying2 e0
  obtain ⟨s1, h1, _, _⟩ := DataW.trod_int Tryd.underlying2 e1
  obtain ⟨s2, h2, _, _⟩ := DataW.trod_int Tryd.underlying2 e2
  simp at h0 h1 h2
  subst h0 h1 h2
  exact ⟨⟨s0, s1, s2⟩, rfl, trivial⟩
set_option maxRecDepth 100000 in
/-- A []Ins that came in. -/
theorem open_inss {fuel : Nat} {cs : List Value} {x : DataW H × List MemPlace} (h : DataW.trod enc Tryd.prog w base spare held fuel 27 cs = some x) : ∃ (a : Option Addr) (n cap : Nat) (L : Nat → In), cs = [.slice a n cap] ∧ n ≤ maxLen ∧ (∀ i, i < n → (L i).fits) ∧ InsAt w a n L := by
  rcases open_slice Tryd.underlying27 h with ⟨hcs, _⟩ | ⟨ad, n, cap, m, f, D, Pl, hcs, _, hl, hm, hmm, _, hx⟩
  · exact ⟨none, 0, 0, fun _ => default, hcs, by unfold maxLen; omega, fun i hi => by omega, Or.inl rfl⟩
  · have hnm : n ≤ m := by rw [hmm]; split <;> omega
    rw [cellsIns] at hx
    obtain ⟨L, hL⟩ := choose_lt (α := In) (n := n) (p := fun i l => (∀ k, k < 3 → w.cell? ⟨ad.block, ad.off + i * 3 + k, none⟩ = ([.int .i64 l.o, .int .i64 l.a, .int .i64 l.b] : List Value)[k]?) ∧ (i = 0 → ad.spot = none) ∧ l.fits) (fun i hi => by
      obtain ⟨cs', h1, h2⟩ := hx i (by omega)
      obtain ⟨l, rfl, hf⟩ := open_ins h2
      obtain ⟨g, o, rfl, rfl, hs, hk⟩ := elem_cells h1 (by omega)
      exact ⟨l, hk, hs, hf⟩)
    refine ⟨some ad, n, cap, L, hcs, by omega, fun i hi => (hL i hi).2.2, ?_⟩
    rcases Nat.eq_zero_or_pos n with h0 | hpos
    · exact Or.inl h0
    · have hsp := (hL 0 hpos).2.1 rfl
      obtain ⟨g, o, sp⟩ := ad
      simp only at hsp hL
      subst hsp
      refine Or.inr ⟨g, o, rfl, ?_, fun i hi => ?_⟩
      · have := (hL 0 hpos).1 0 (by omega)
        exact World.block_lt_of_cell? _ _ this
      · have hk := (hL i hi).1
        exact ⟨hk 0 (by omega), hk 1 (by omega), hk 2 (by omega)⟩
theorem cellsMod : Tryd.prog.cellsOf 29 = 5 := by kernel_rfl
theorem cellsMs : Tryd.prog.cellsOf 27 = 1 := by kernel_rfl
set_option maxRecDepth 100000 in
set_option maxHeartbeats 1000000 in
/-- A Module that came in. -/
theorem open_mod {r : Reach} {b0 : Nat} {v : Value} {d : DataW H} {p : List MemPlace} (hv : Value.okWide Tryd.prog w r b0 29 v) (h : DataW.Trod enc Tryd.prog w base spare held 29 v d p) :
    ∃ (z0 z1 z2 z3 : Int) (a : Option Addr) (n c : Nat) (L : Nat → In), v = .agg #[.int .i64 z0, .int .i64 z1, .int .i64 z2, .int .i64 z3, .slice a n c] ∧ n ≤ maxLen ∧ InsAt w a n L := by
  obtain ⟨cs, rfl, hz⟩ := okWide_struct Tryd.underlying29 hv
  rw [cellsMod] at hz
  obtain ⟨fuel, hf⟩ := h
  obtain ⟨xs, f, _, _, _, hxl, hx⟩ := DataW.trod_struct Tryd.underlying29 hf
  obtain ⟨l⟩ := cs
  match l, hz with
  | [c0, c1, c2, c3, c4], _ =>
  match xs, hxl with
  | [y0, y1, y2, y3, y4], _ =>
  have e0 := hx 0 _ rfl
  have e1 := hx 1 _ rfl
  have e2 := hx 2 _ rfl
  have e3 := hx 3 _ rfl
  have e4 := hx 4 _ rfl
  simp [Value.cells, cells2, cellsMs] at e0 e1 e2 e3 e4
  obtain ⟨z0, h0, _, _⟩ := DataW.trod_int Tryd.underlying2 e0
  obtain ⟨z1, h1, _, _⟩ := DataW.trod_int Tryd.underlying2 e1
  obtain ⟨z2, h2, _, _⟩ := DataW.trod_int Tryd.underlying2 e2
  obtain ⟨z3, h3, _, _⟩ := DataW.trod_int Tryd.underlying2 e3
  obtain ⟨a, n, c, L, h4, hn, _, ha⟩ := open_inss e4
  simp at h0 h1 h2 h3 h4
  subst h0 h1 h2 h3 h4
  exact ⟨z0, z1, z2, z3, a, n, c, L, rfl, hn, ha⟩
theorem cellsIn1 : Tryd.prog.cellsOf 31 = 3 := by kernel_rfl
set_option maxRecDepth 100000 in
/-- An Ins by value that came in. -/
theorem open_insv {r : Reach} {b0 : Nat} {v : Value} {d : DataW H} {p : List MemPlace} (hv : Value.okWide Tryd.prog w r b0 31 v) (h : DataW.Trod enc Tryd.prog w base spare held 31 v d p) :
    ∃ x : In, v = .agg #[.int .i64 x.o, .int .i64 x.a, .int .i64 x.b] := by
  obtain ⟨cs, rfl, hz⟩ := okWide_struct Tryd.underlying31 hv
  rw [cellsIn1] at hz
  obtain ⟨fuel, hf⟩ := h
  obtain ⟨xs, f, _, _, _, hxl, hx⟩ := DataW.trod_struct Tryd.underlying31 hf
  obtain ⟨l⟩ := cs
  match l, hz with
  | [c0, c1, c2], _ =>
  match xs, hxl with
  | [y0, y1, y2], _ =>
  have e0 := hx 0 _ rfl
  have e1 := hx 1 _ rfl
  have e2 := hx 2 _ rfl
  simp [Value.cells, cells2] at e0 e1 e2
  obtain ⟨z0, h0, _, _⟩ := DataW.trod_int Tryd.underlying2 e0
  obtain ⟨z1, h1, _, _⟩ := DataW.trod_int Tryd.underlying2 e1
  obtain ⟨z2, h2, _, _⟩ := DataW.trod_int Tryd.underlying2 e2
  simp at h0 h1 h2
  subst h0 h1 h2
  exact ⟨⟨z0, z1, z2⟩, rfl⟩
end
end Go.Proofs.YtkhjmjlmbeealaaDoor
