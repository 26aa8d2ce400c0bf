/- What is drawn for the law FnMoney: two numbers, a rate, texts of money and rates, at times spoilt; nothing old is turned. -/
import Derived.Test.YtmeffdggpdojhaaDoorDrawM
import Derived.Test.YtmeffdggpdojhaaDoorNames
namespace Go.Proofs.YtmeffdggpdojhaaDoor.Draw
open Go.RowKit

theorem Src.under {w0 : World} {a : Option Addr} {len cap : Nat} {zs : List Int} {w w' : World} {S : Nat} (h : Src w0 a len cap zs w S) (hb : Below w.heap.size w w') : Src w0 a len cap zs w' S := by
  have hlt := h.lt
  obtain ⟨hrow, hsm, hbel, hlo, k, m, z, hk, hm0, hm1, hz0, hz1, hobj⟩ := h
  exact ⟨hrow, hsm, hbel.trans (hb.mono hbel.size), hlo, k, m, z, hk, hm0, hm1, hz0, hz1, by rw [hb.block S hlt]; exact hobj⟩
theorem below_src {w w1 w2 : World} {S : Nat} (hb : Below w.heap.size w w1) (hg : w1.grownBy w2 (some S)) (hS : w.heap.size ≤ S) : Below w.heap.size w w2 := hb.grown hg hb.size (fun k hk => by cases hk; exact hS)





end Go.Proofs.YtmeffdggpdojhaaDoor.Draw
