/- Arguments that are environments, or lists of whole numbers: their cells, read out of the arguments' reading. -/
import Derived.Test.YtnefcldjigndgaaDoorInts
import Derived.Test.YtnefcldjigndgaaDoorArgT
import Derived.ChangeSlices
namespace Go.Proofs.YtnefcldjigndgaaDoor
open Go.ChangeShapes Go.WideShapes Go.Deep
open Go.Proofs.YtnefcldjigndgaaDoor.Draw

section
variable {H : Type} {enc : TypeId × Value → H} {w : World} {base : Nat} {spare : Nat → Bool} {held : Bool}
theorem cellsIs : Tryd.prog.cellsOf 42 = 1 := by kernel_rfl
set_option maxRecDepth 100000 in
/-- A []int64 that came in. -/
theorem open_nums {fuel : Nat} {cs : List Value} {x : DataW H × List MemPlace} (h : DataW.trod enc Tryd.prog w base spare held fuel 42 cs = some x) : ∃ (a : Option Addr) (n cap : Nat) (T : Nat → Int), cs = [.slice a n cap] ∧ n ≤ maxLen ∧ (∀ i, i < n → -9223372036854775808 ≤ T i ∧ T i ≤ 9223372036854775807) ∧ IntsAt w a n T := by
  rcases open_ints Tryd.underlying42 Tryd.underlying2 (by kernel_rfl) h with ⟨hcs, _⟩ | ⟨ad, n, cap, zs, hcs, _, hl, hm, hz, _, hcell, hwf⟩
  · exact ⟨none, 0, 0, fun _ => 0, hcs, by unfold maxLen; omega, fun i hi => by omega, Or.inl rfl⟩
  · have hnz : n ≤ zs.length := by rw [hz]; split <;> omega
    refine ⟨some ad, n, cap, fun i => zs.getD i 0, hcs, by omega, fun i hi => ?_, ?_⟩
    · have hmem : zs.getD i 0 ∈ zs := by
        rw [List.getD_eq_getElem?_getD, List.getElem?_eq_getElem (by omega)]
        exact List.getElem_mem _
      have := hwf _ hmem
      simpa [Lit.wf, IntKind.min, IntKind.max, IntKind.signed, IntKind.bits] using this
    · rcases Nat.eq_zero_or_pos n with h0 | hpos
      · exact Or.inl h0
      · have h0 := hcell 0 (by omega)
        have hsp := World.cell?_spot h0
        obtain ⟨g, o, sp⟩ := ad
        have hsp' : sp = none := by simpa [Addr.add] using hsp
        subst hsp'
        refine Or.inr ⟨g, o, rfl, ?_, fun i hi => ?_⟩
        · have h0' : w.cell? ⟨g, o, none⟩ = some (.int .i64 (zs.getD 0 0)) := by simpa [Addr.add] using h0
          exact World.block_lt_of_cell? _ _ h0'
        · have := hcell i (by omega)
          rw [add_off] at this
          exact this
theorem cellsEv : Tryd.prog.cellsOf 44 = 7 := by kernel_rfl
set_option maxRecDepth 100000 in
set_option maxHeartbeats 1000000 in
/-- An Env that came in. -/
theorem open_env {r : Reach} {b0 : Nat} {v : Value} {d : DataW H} {p : List MemPlace} (hv : Value.okWide Tryd.prog w r b0 44 v) (h : DataW.Trod enc Tryd.prog w base spare held 44 v d p) :
    ∃ (ea : Option Addr) (np ec : Nat) (ba : Option Addr) (nb bc : Nat) (t s c u k : Int) (T B : Nat → Int), v = .agg #[.slice ea np ec, .slice ba nb bc, .int .i64 t, .int .i64 s, .int .i64 c, .int .i64 u, .int .i64 k] ∧ np ≤ maxLen ∧ nb ≤ maxLen ∧ IntsAt w ea np T ∧ IntsAt w ba nb B := by
  obtain ⟨cs, rfl, hz⟩ := okWide_struct Tryd.underlying44 hv
  rw [cellsEv] at hz
  obtain ⟨fuel, hf⟩ := h
  obtain ⟨xs, f, _, _, _, hxl, hx⟩ := DataW.trod_struct Tryd.underlying44 hf
  obtain ⟨l⟩ := cs
  match l, hz with
  | [c0, c1, c2, c3, c4, c5, c6], _ =>
  match xs, hxl with
  | [y0, y1, y2, y3, y4, y5, y6], _ =>
  have e0 := hx 0 _ rfl
  have e1 := hx 1 _ rfl
  have e2 := hx 2 _ rfl
  have e3 := hx 3 _ rfl
  have e4 := hx 4 _ rfl
  have e5 := hx 5 _ rfl
  have e6 := hx 6 _ rfl
  simp [Value.cells, cells2, cellsIs] at e0 e1 e2 e3 e4 e5 e6
  obtain ⟨ea, np, ec, T, h0, n0, _, a0⟩ := open_nums e0
  obtain ⟨ba, nb, bc, B, h1, n1, _, a1⟩ := open_nums e1
  obtain ⟨t, h2, _, _⟩ := DataW.trod_int Tryd.underlying2 e2
  obtain ⟨s, h3, _, _⟩ := DataW.trod_int Tryd.underlying2 e3
  obtain ⟨c, h4, _, _⟩ := DataW.trod_int Tryd.underlying2 e4
  obtain ⟨u, h5, _, _⟩ := DataW.trod_int Tryd.underlying2 e5
  obtain ⟨k, h6, _, _⟩ := DataW.trod_int Tryd.underlying2 e6
  simp at h0 h1 h2 h3 h4 h5 h6
  subst h0 h1 h2 h3 h4 h5 h6
  exact ⟨ea, np, ec, ba, nb, bc, t, s, c, u, k, T, B, rfl, n0, n1, a0, a1⟩
end
end Go.Proofs.YtnefcldjigndgaaDoor
