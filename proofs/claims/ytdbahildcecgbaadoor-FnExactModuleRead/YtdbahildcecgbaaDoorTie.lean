/-
  DERIVED. GIVEN WITH THE SEED: THE PROGRAM's TIES (one call each: nine closed facts by the kernel) AND EACH ROW's TIE, after the 31st guide's Derived/Test/Toyas{Tie, Card}.lean. No idea stands in it: it is a product of the set-up. Laid BY PROGRAM, IN A SANDBOX (cutbox-door.mjs). By AI agents, Wed Nov 11 2026. No macro, syntax, notation, axiom, sorry.
-/
import Derived.Test.YtdbahildcecgbaaDoorRows
import Derived.LaidByTextLater
import Derived.SevenTiedAt
import Derived.LaidSub
import Derived.LaidOnce
namespace Go.Proofs.YtdbahildcecgbaaDoor
open Go
set_option maxRecDepth 100000
theorem seatTie1 : Tryd.prog.laidByTextLater [("loop.example/g00221/impl.functionWords", Rows.laid_loop_example_g00221_impl_functionWords), ("loop.example/g00221/impl.insShapes", Rows.laid_loop_example_g00221_impl_insShapes)] [.data, .data] true :=
  Program.laidByTextLater_by_one 45 8 163 (by kernel_rfl) (by kernel_rfl) (by kernel_rfl) (by kernel_rfl) (by kernel_rfl) (by kernel_rfl) (fun _ _ => by kernel_rfl)
theorem noOwnUnsafe : Tryd.pinned.checked.prog.headLifts.contains "ownunsafe" = false := by kernel_rfl
theorem tie : Tryd.prog.laidByTextLater [("loop.example/g00221/impl.functionWords", Rows.laid_loop_example_g00221_impl_functionWords), ("loop.example/g00221/impl.insShapes", Rows.laid_loop_example_g00221_impl_insShapes)] [.data, .data] true :=
  Program.laidByTextLater.sub seatTie1 ["loop.example/g00221/impl.functionWords", "loop.example/g00221/impl.insShapes"] (by kernel_rfl) (by kernel_rfl)
theorem fnExactModuleRead_row_tie : Rows.fnExactModuleReadRow.laidByTextAt .later Tryd.pinned [.data, .data] true :=
  OpenClaim.laidByTextAt_later rfl rfl tie noOwnUnsafe
theorem tie2 : Tryd.prog.laidByTextLater [("loop.example/g00221/impl.functionWords", Rows.laid_loop_example_g00221_impl_functionWords)] [.data] true :=
  Program.laidByTextLater.sub seatTie1 ["loop.example/g00221/impl.functionWords"] (by kernel_rfl) (by kernel_rfl)
theorem fnExactFunctionNumber_row_tie : Rows.fnExactFunctionNumberRow.laidByTextAt .later Tryd.pinned [.data] true :=
  OpenClaim.laidByTextAt_later rfl rfl tie2 noOwnUnsafe
theorem fnExactModuleReadUpto_row_tie : Rows.fnExactModuleReadUptoRow.laidByTextAt .later Tryd.pinned [.data, .data] true :=
  OpenClaim.laidByTextAt_later rfl rfl tie noOwnUnsafe
theorem fnExactFunctionNumberUpto_row_tie : Rows.fnExactFunctionNumberUptoRow.laidByTextAt .later Tryd.pinned [.data] true :=
  OpenClaim.laidByTextAt_later rfl rfl tie2 noOwnUnsafe
end Go.Proofs.YtdbahildcecgbaaDoor
