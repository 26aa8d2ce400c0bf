/- What the rows' lists of package-level variables give the walks: the table of the instructions' shapes, the functions' names; and worlds that meet the lists. -/
import Derived.Test.YtdbahildcecgbaaDoorFw
import Derived.Lib.LaidTab
import Derived.LaidHandle
import Derived.LaidLaws
import Derived.LaidMore
import Derived.MakeChecks
import Derived.Stop.Joined
import Derived.Stop.LaidErr
namespace Go.Proofs.YtdbahildcecgbaaDoor
open Go.RowKit

namespace Laid
theorem arr_parts {H : Type} {enc : TypeId × Value → H} {P : Program} {w : World} {base : Nat} {sp : Nat → Bool} {held : Bool} {fuel : Nat} {t e : TypeId} {n c : Nat} {cs : List Value} {ds : List (DataW H)} {p : List MemPlace}
    (ht : P.underlying t = some (.array n e)) (hce : P.cellsOf e = c) (hct : P.cellsOf t = n * c)
    (h : DataW.trod enc P w base sp held fuel t cs = some (.agg ds, p)) : ∀ i, i < n → ∃ d f q, ds[i]? = some d ∧ DataW.trod enc P w base sp held f e ((cs.drop (i * c)).take c) = some (d, q) := by
  cases fuel with
  | zero => simp [DataW.trod] at h
  | succ fuel =>
    simp only [DataW.trod, ht, hce, hct] at h
    split at h
    · obtain ⟨xs, hm, hx⟩ := Option.map_eq_some_iff.1 h
      have hxs : xs.map (·.1) = ds := by
        have := congrArg Prod.fst hx
        simpa using this
      intro i hi
      obtain ⟨b, hb, hf⟩ := Lib.mapM_at hm i i (by simp [hi])
      exact ⟨b.1, fuel, b.2, by rw [← hxs, List.getElem?_map, hb]; rfl, hf⟩
    · cases h
theorem one_at {cs : List Value} {k : Nat} {v : Value} (h : (cs.drop k).take 1 = [v]) : cs[k]? = some v := by
  have := congrArg (·[0]?) h
  simpa [List.getElem?_take, List.getElem?_drop] using this
theorem two_at {cs : List Value} {k c j : Nat} {v : Value} (h : (((cs.drop k).take c).drop j).take 1 = [v]) : cs[k + j]? = some v := by
  have h0 := one_at h
  rw [List.getElem?_take] at h0
  split at h0
  · rw [List.getElem?_drop] at h0; exact h0
  · exact absurd h0 (by simp)
theorem funEq : (Rows.laid_loop_example_g00221_impl_functionWords : DataW Unit) = .agg (funT.map fun s => .lit (.string s)) := by kernel_rfl
theorem fg : Tryd.prog.globalNamed "loop.example/g00221/impl.functionWords" = some 0 := by kernel_rfl
theorem fT : (Tryd.prog.globals[0]?).map (·.type) = some 57 := by kernel_rfl
theorem fC : Tryd.prog.cellsOf 57 = 8 * 1 := by kernel_rfl
theorem fC1 : Tryd.prog.cellsOf 9 = 1 := by kernel_rfl
theorem fun_ {rest : List (String × DataW Unit)} {W : World} (h : laidMet Tryd.prog (("loop.example/g00221/impl.functionWords", Rows.laid_loop_example_g00221_impl_functionWords) :: rest) W) : FunW W := by
  rw [funEq] at h
  obtain ⟨ps, ⟨g', t', cs, fuel, p, q, hg', ht', hvar, hd, _, _⟩, _⟩ := h
  obtain rfl := Option.some.inj (fg.symm.trans hg')
  obtain rfl := Option.some.inj (fT.symm.trans ht')
  intro k hk
  obtain ⟨d, f, q', hdd, ht⟩ := arr_parts Tryd.underlying57 fC1 fC hd k hk
  obtain ⟨s, hs, hx, _⟩ := DataW.trod_string Tryd.underlying9 ht
  have h0 := one_at hs
  rw [Nat.mul_one] at h0
  rw [World.var?_cell fg hvar k]
  have e1 : (funT.map fun s => (DataW.lit (.string s) : DataW Unit))[k]? = some (.lit (.string (funT.getD k []))) := by
    rw [List.getElem?_map, List.getD_eq_getElem?_getD, List.getElem?_eq_getElem (by show k < 8; exact hk)]; rfl
  rw [e1] at hdd
  cases hdd
  simp only [Prod.mk.injEq, DataW.lit.injEq, Lit.string.injEq] at hx
  rw [← Array.getElem?_toList, h0]
  show some (Value.string s) = some (.string ⟨(funT.getD k []).toArray⟩)
  rw [hx.1]
def shpD (s : Shp) : DataW Unit := .agg [.lit (.string s.nm), .lit (.int .i64 s.a), .lit (.int .i64 s.b), .lit (.int .i64 s.t), .lit (.int .i64 s.p), .lit (.bool s.e)]
theorem shaEq : (Rows.laid_loop_example_g00221_impl_insShapes : DataW Unit) = .agg (shpT.map shpD) := by kernel_rfl
theorem sg : Tryd.prog.globalNamed "loop.example/g00221/impl.insShapes" = some 1 := by kernel_rfl
theorem sT : (Tryd.prog.globals[1]?).map (·.type) = some 75 := by kernel_rfl
theorem sC : Tryd.prog.cellsOf 75 = 27 * 6 := by kernel_rfl
theorem sC1 : Tryd.prog.cellsOf 74 = 6 := by kernel_rfl
theorem c2 : Tryd.prog.cellsOf 2 = 1 := by kernel_rfl
theorem c9 : Tryd.prog.cellsOf 9 = 1 := by kernel_rfl
theorem c4 : Tryd.prog.cellsOf 4 = 1 := by kernel_rfl
theorem cO : Tryd.prog.cellsOf 72 = 1 := by kernel_rfl
set_option maxRecDepth 100000 in
theorem sha {rest : List (String × DataW Unit)} {W : World} (h : laidMet Tryd.prog (("loop.example/g00221/impl.insShapes", Rows.laid_loop_example_g00221_impl_insShapes) :: rest) W) : ShaW W := by
  rw [shaEq] at h
  obtain ⟨ps, ⟨g', t', cs, fuel, p, q, hg', ht', hvar, hd, _, _⟩, _⟩ := h
  obtain rfl := Option.some.inj (sg.symm.trans hg')
  obtain rfl := Option.some.inj (sT.symm.trans ht')
  intro k hk
  obtain ⟨d, f, q', hdd, ht⟩ := arr_parts Tryd.underlying75 sC1 sC hd k hk
  have e1 : (shpT.map shpD)[k]? = some (shpD (shp k)) := by
    rw [List.getElem?_map, shp, List.getD_eq_getElem?_getD, List.getElem?_eq_getElem (by show k < 27; exact hk)]; rfl
  rw [e1] at hdd
  have hdd := Option.some.inj hdd
  subst hdd
  obtain ⟨xs, n, _, hx, _, hxl, hxx⟩ := DataW.trod_struct Tryd.underlying74 ht
  match xs, hxl with
  | [y0, y1, y2, y3, y4, y5], _ =>
  have e0 := hxx 0 _ rfl
  have e1 := hxx 1 _ rfl
  have e2 := hxx 2 _ rfl
  have e3 := hxx 3 _ rfl
  have e4 := hxx 4 _ rfl
  have e5 := hxx 5 _ rfl
  change DataW.trod _ _ _ _ _ _ _ 9 ((((cs.toList.drop (k * 6)).take 6).drop 0).take (Tryd.prog.cellsOf 9)) = some y0 at e0
  rw [c9] at e0
  change DataW.trod _ _ _ _ _ _ _ 72 ((((cs.toList.drop (k * 6)).take 6).drop 1).take (Tryd.prog.cellsOf 72)) = some y1 at e1
  rw [cO] at e1
  change DataW.trod _ _ _ _ _ _ _ 72 ((((cs.toList.drop (k * 6)).take 6).drop 2).take (Tryd.prog.cellsOf 72)) = some y2 at e2
  rw [cO] at e2
  change DataW.trod _ _ _ _ _ _ _ 2 ((((cs.toList.drop (k * 6)).take 6).drop 3).take (Tryd.prog.cellsOf 2)) = some y3 at e3
  rw [c2] at e3
  change DataW.trod _ _ _ _ _ _ _ 2 ((((cs.toList.drop (k * 6)).take 6).drop 4).take (Tryd.prog.cellsOf 2)) = some y4 at e4
  rw [c2] at e4
  change DataW.trod _ _ _ _ _ _ _ 4 ((((cs.toList.drop (k * 6)).take 6).drop 5).take (Tryd.prog.cellsOf 4)) = some y5 at e5
  rw [c4] at e5
  obtain ⟨s0, h0, x0, _⟩ := DataW.trod_string Tryd.underlying9 e0
  obtain ⟨s1, h1, x1, _⟩ := DataW.trod_int Tryd.underlying72 e1
  obtain ⟨s2, h2, x2, _⟩ := DataW.trod_int Tryd.underlying72 e2
  obtain ⟨s3, h3, x3, _⟩ := DataW.trod_int Tryd.underlying2 e3
  obtain ⟨s4, h4, x4, _⟩ := DataW.trod_int Tryd.underlying2 e4
  obtain ⟨s5, h5, x5⟩ := DataW.trod_bool Tryd.underlying4 e5
  subst x0 x1 x2 x3 x4 x5
  have g0 := two_at h0
  have g1 := two_at h1
  have g2 := two_at h2
  have g3 := two_at h3
  have g4 := two_at h4
  have g5 := two_at h5
  have hx := congrArg Prod.fst hx
  simp only [shpD, List.map_cons, List.map_nil, DataW.agg.injEq, List.cons.injEq, DataW.lit.injEq, Lit.string.injEq, Lit.int.injEq, Lit.bool.injEq, true_and, and_true] at hx
  obtain ⟨i0, i1, i2, i3, i4, i5⟩ := hx
  have hn : nameO k = s0 := by
    show (⟨(shp k).nm.toArray⟩ : ByteArray) = s0
    rw [i0]
  rw [hn, i1, i2, i3, i4, i5]
  refine ⟨?_, ?_, ?_, ?_, ?_, ?_⟩ <;> (rw [World.var?_cell sg hvar, ← Array.getElem?_toList]; assumption)
end Laid
def laidS : List (String × DataW Unit) := [("loop.example/g00221/impl.insShapes", Rows.laid_loop_example_g00221_impl_insShapes)]
def laidFS : List (String × DataW Unit) := [("loop.example/g00221/impl.functionWords", Rows.laid_loop_example_g00221_impl_functionWords), ("loop.example/g00221/impl.insShapes", Rows.laid_loop_example_g00221_impl_insShapes)]
def laidF : List (String × DataW Unit) := [("loop.example/g00221/impl.functionWords", Rows.laid_loop_example_g00221_impl_functionWords)]
theorem lay_f {W : World} (h : laidMetH Tryd.prog laidF W) : FunW W := by
  rw [MakeChecks.laidMetH_plain _ _ _ (by kernel_rfl)] at h
  exact Laid.fun_ h
theorem door_f (os : Os) (args : Array Value) : laidMetH Tryd.prog laidF ((World.doorLaid Tryd.prog 400 os).forCall (fun _ _ => 0) ⟨#[], args, []⟩).memory :=
  laidMetH_of_parts (laidMet_of_run' 8 (by kernel_rfl) (by kernel_rfl)) (by kernel_rfl)
theorem lay_s {W : World} (h : laidMetH Tryd.prog laidS W) : ShaW W := by
  rw [MakeChecks.laidMetH_plain _ _ _ (by kernel_rfl)] at h
  exact Laid.sha h
theorem lay_fs {W : World} (h : laidMetH Tryd.prog laidFS W) : FunW W ∧ ShaW W := by
  rw [MakeChecks.laidMetH_plain _ _ _ (by kernel_rfl)] at h
  exact ⟨Laid.fun_ h, Laid.sha h.tail⟩
theorem door_s (os : Os) (args : Array Value) : laidMetH Tryd.prog laidS ((World.doorLaid Tryd.prog 400 os).forCall (fun _ _ => 0) ⟨#[], args, []⟩).memory :=
  laidMetH_of_parts (laidMet_of_run' 8 (by kernel_rfl) (by kernel_rfl)) (by kernel_rfl)
theorem door_fs (os : Os) (args : Array Value) : laidMetH Tryd.prog laidFS ((World.doorLaid Tryd.prog 400 os).forCall (fun _ _ => 0) ⟨#[], args, []⟩).memory :=
  laidMetH_of_parts (laidMet_of_run' 8 (by kernel_rfl) (by kernel_rfl)) (by kernel_rfl)
end Go.Proofs.YtdbahildcecgbaaDoor
