/- A struct of five fields of one cell each, handed over by value: its value written out, each field's cell with its reading. -/
import Derived.Test.YtgkfjopbcphnhaaDoorRows
import Derived.Lib.SmallJoins
namespace Go.Proofs.YtgkfjopbcphnhaaDoor
open Go.ChangeShapes Go.WideShapes Go.Joins Go.Deep

theorem five_of {α : Type} {cs : Array α} (h : cs.size = 5) : ∃ a b c d e, cs = #[a, b, c, d, e] := by
  obtain ⟨l⟩ := cs
  match l, h with
  | [a, b, c, d, e], _ => exact ⟨a, b, c, d, e, rfl⟩
theorem open_five {H : Type} {enc : TypeId × Value → H} {P : Program} {w : World} {base : Nat} {spare : Nat → Bool} {held : Bool} {r : Reach} {b0 : Nat} {t : TypeId} {f0 f1 f2 f3 f4 : Field} {v : Value} {d : DataW H} {p : List MemPlace}
    (hs : P.underlying t = some (.struct #[f0, f1, f2, f3, f4])) (hone : oneCellFields P #[f0, f1, f2, f3, f4] = true) (hC : P.cellsOf t = 5) (hv : Value.okWide P w r b0 t v) (h : DataW.Trod enc P w base spare held t v d p) :
    ∃ (a b c d e : Value) (ya yb yc yd ye : DataW H × List MemPlace) (n : Nat), v = .agg #[a, b, c, d, e] ∧ DataW.trod enc P w base spare held n f0.type [a] = some ya ∧ DataW.trod enc P w base spare held n f1.type [b] = some yb ∧
      DataW.trod enc P w base spare held n f2.type [c] = some yc ∧ DataW.trod enc P w base spare held n f3.type [d] = some yd ∧ DataW.trod enc P w base spare held n f4.type [e] = some ye := by
  obtain ⟨cs, rfl, hz⟩ := okWide_struct hs hv
  obtain ⟨a, b, c, d, e, rfl⟩ := five_of (hz.trans hC)
  obtain ⟨fuel, hf⟩ := h
  obtain ⟨xs, n, _, _, _, hlen, hx⟩ := DataW.trod_struct hs hf
  obtain ⟨o0, k0⟩ := hone_of hone 0 f0 rfl
  obtain ⟨o1, k1⟩ := hone_of hone 1 f1 rfl
  obtain ⟨o2, k2⟩ := hone_of hone 2 f2 rfl
  obtain ⟨o3, k3⟩ := hone_of hone 3 f3 rfl
  obtain ⟨o4, k4⟩ := hone_of hone 4 f4 rfl
  match xs, hlen with
  | [ya, yb, yc, yd, ye], _ =>
    exact ⟨a, b, c, d, e, ya, yb, yc, yd, ye, n, rfl, by simpa [Value.cells, o0, k0] using hx 0 f0 rfl, by simpa [Value.cells, o1, k1] using hx 1 f1 rfl, by simpa [Value.cells, o2, k2] using hx 2 f2 rfl,
      by simpa [Value.cells, o3, k3] using hx 3 f3 rfl, by simpa [Value.cells, o4, k4] using hx 4 f4 rfl⟩
end Go.Proofs.YtgkfjopbcphnhaaDoor
