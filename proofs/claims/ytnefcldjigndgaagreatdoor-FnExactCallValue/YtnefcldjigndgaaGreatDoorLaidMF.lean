/- What the rows' lists give of the functions' names (besides LaidM: the handle and the months' lengths); and worlds that meet the list. -/
import Derived.Test.YtnefcldjigndgaaGreatDoorLaidM
import Derived.Test.YtnefcldjigndgaaGreatDoorFw
import Derived.Lib.LaidTab
import Derived.LaidHandle
import Derived.LaidLaws
import Derived.LaidMore
import Derived.MakeChecks
import Derived.Stop.Joined
import Derived.Stop.LaidErr
namespace Go.Proofs.YtnefcldjigndgaaGreatDoor
open Go.RowKit

namespace Laid
theorem arr_parts {H : Type} {enc : TypeId × Value → H} {P : Program} {w : World} {base : Nat} {sp : Nat → Bool} {held : Bool} {fuel : Nat} {t e : TypeId} {n c : Nat} {cs : List Value} {ds : List (DataW H)} {p : List MemPlace}
    (ht : P.underlying t = some (.array n e)) (hce : P.cellsOf e = c) (hct : P.cellsOf t = n * c)
    (h : DataW.trod enc P w base sp held fuel t cs = some (.agg ds, p)) : ∀ i, i < n → ∃ d f q, ds[i]? = some d ∧ DataW.trod enc P w base sp held f e ((cs.drop (i * c)).take c) = some (d, q) := by
  cases fuel with
  | zero => simp [DataW.trod] at h
  | succ fuel =>
    simp only [DataW.trod, ht, hce, hct] at h
    split at h
    · obtain ⟨xs, hm, hx⟩ := Option.map_eq_some_iff.1 h
      have hxs : xs.map (·.1) = ds := by
        have := congrArg Prod.fst hx
        simpa using this
      intro i hi
      obtain ⟨b, hb, hf⟩ := Lib.mapM_at hm i i (by simp [hi])
      exact ⟨b.1, fuel, b.2, by rw [← hxs, List.getElem?_map, hb]; rfl, hf⟩
    · cases h
theorem one_at {cs : List Value} {k : Nat} {v : Value} (h : (cs.drop k).take 1 = [v]) : cs[k]? = some v := by
  have := congrArg (·[0]?) h
  simpa [List.getElem?_take, List.getElem?_drop] using this
theorem two_at {cs : List Value} {k c j : Nat} {v : Value} (h : (((cs.drop k).take c).drop j).take 1 = [v]) : cs[k + j]? = some v := by
  have h0 := one_at h
  rw [List.getElem?_take] at h0
  split at h0
  · rw [List.getElem?_drop] at h0; exact h0
  · exact absurd h0 (by simp)
theorem funEq : (Rows.laid_loop_example_g00221_impl_functionWords : DataW Unit) = .agg (funT.map fun s => .lit (.string s)) := by kernel_rfl
theorem fg : Tryz.prog.globalNamed "loop.example/g00221/impl.functionWords" = some 1 := by kernel_rfl
theorem fT : (Tryz.prog.globals[1]?).map (·.type) = some 94 := by kernel_rfl
theorem fC : Tryz.prog.cellsOf 94 = 8 * 1 := by kernel_rfl
theorem fC1 : Tryz.prog.cellsOf 9 = 1 := by kernel_rfl
theorem fun_ {rest : List (String × DataW Unit)} {W : World} (h : laidMet Tryz.prog (("loop.example/g00221/impl.functionWords", Rows.laid_loop_example_g00221_impl_functionWords) :: rest) W) : FunW W := by
  rw [funEq] at h
  obtain ⟨ps, ⟨g', t', cs, fuel, p, q, hg', ht', hvar, hd, _, _⟩, _⟩ := h
  obtain rfl := Option.some.inj (fg.symm.trans hg')
  obtain rfl := Option.some.inj (fT.symm.trans ht')
  intro k hk
  obtain ⟨d, f, q', hdd, ht⟩ := arr_parts Tryz.underlying94 fC1 fC hd k hk
  obtain ⟨s, hs, hx, _⟩ := DataW.trod_string Tryz.underlying9 ht
  have h0 := one_at hs
  rw [Nat.mul_one] at h0
  rw [World.var?_cell fg hvar k]
  have e1 : (funT.map fun s => (DataW.lit (.string s) : DataW Unit))[k]? = some (.lit (.string (funT.getD k []))) := by
    rw [List.getElem?_map, List.getD_eq_getElem?_getD, List.getElem?_eq_getElem (by show k < 8; exact hk)]; rfl
  rw [e1] at hdd
  cases hdd
  simp only [Prod.mk.injEq, DataW.lit.injEq, Lit.string.injEq] at hx
  rw [← Array.getElem?_toList, h0]
  show some (Value.string s) = some (.string ⟨(funT.getD k []).toArray⟩)
  rw [hx.1]
end Laid
def laidHMF : List (String × DataW Unit) := [("errors.errorType", Rows.laid_errors_errorType), ("loop.example/g00221/impl.monthLengths", Rows.laid_loop_example_g00221_impl_monthLengths), ("loop.example/g00221/impl.functionWords", Rows.laid_loop_example_g00221_impl_functionWords)]
theorem lay_hmf {W : World} (h : laidMetH Tryz.prog laidHMF W) : FunW W ∧ Mon W ∧ Lay W := by
  have h' : laidMet Tryz.prog [("loop.example/g00221/impl.monthLengths", Rows.laid_loop_example_g00221_impl_monthLengths), ("loop.example/g00221/impl.functionWords", Rows.laid_loop_example_g00221_impl_functionWords)] W ∧ handlesMet Tryz.prog [("errors.errorType", Rows.laid_errors_errorType)] W := h
  exact ⟨Laid.fun_ h'.1.tail, Laid.mon h'.1, Laid.handle h'.2 (List.mem_singleton.2 rfl)⟩
theorem door_hmf (os : Os) (args : Array Value) : laidMetH Tryz.prog laidHMF ((World.doorLaid Tryz.prog 400 os).forCall (fun _ _ => 0) ⟨#[], args, []⟩).memory :=
  laidMetH_of_parts (laidMet_of_run' 8 (by kernel_rfl) (by kernel_rfl)) (by kernel_rfl)
end Go.Proofs.YtnefcldjigndgaaGreatDoor
