/- Drawn bytes; a number out of a code: what the calls do. -/
import Derived.Test.YtmeffdggpdojhaaDoorSrc2
import Derived.Test.YtmeffdggpdojhaaDoorPut
namespace Go.Proofs.YtmeffdggpdojhaaDoor.Draw
open Go.RowKit

theorem Src.kept {w0 : World} {a : Option Addr} {len cap : Nat} {zs : List Int} {w w' : World} {S : Nat} {row : Option Nat} (h : Src w0 a len cap zs w S) (hg : w.grownBy w' row) (hr : ∀ k, row = some k → w0.heap.size ≤ k) (hne : some S ≠ row) : Src w0 a len cap zs w' S := by
  obtain ⟨hrow, hsm, hbel, hlo, k, m, z, hk, hm0, hm1, hz0, hz1, hobj⟩ := h
  have hlt : S < w.heap.size := (Array.getElem?_eq_some_iff.1 hobj).1
  exact ⟨hrow, hsm, hbel.grown hg hbel.size hr, hlo, k, m, z, hk, hm0, hm1, hz0, hz1, (hg.block S hlt hne).trans hobj⟩
theorem grown_two {w wr w2 : World} {S : Nat} {row : Option Nat} (h : w.grownBy wr (some S)) (h' : wr.grownBy w2 row) (hr : ∀ k, row = some k → w.heap.size ≤ k) : w.grownBy w2 (some S) :=
  ⟨h'.os.trans h.os, h'.tape.trans h.tape, h'.output.trans h.output, Nat.le_trans h.size h'.size, fun k hk hne =>
    (h'.block k (Nat.lt_of_lt_of_le hk h.size) (fun e => by have := hr k e.symm; omega)).trans (h.block k hk hne)⟩


/-- Below most, and nought where most is 1 or less. -/
def Under (most : Int) (r : Nat) : Prop := (1 < most → (r : Int) < most) ∧ (most ≤ 1 → r = 0)

end Go.Proofs.YtmeffdggpdojhaaDoor.Draw
