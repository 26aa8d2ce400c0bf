/-
  NARROWER THAN 'FOR EVERY INPUT', by the rows' own cells (each row's printed sentence says how): FnExactModuleRead: laid · FnExactFunctionNumber: laid.
  DERIVED. THE GIVEN ROWS OF THIS SEAT. 2 by the template 'for every input the law returns true; each argument reads behind the call as it read before'; 0 by the template 'total and deterministic' (their statements: YtdbahildcecgbaaDoorTotals.lean).
  GIVEN WITH THE SEED: the statements are not yours to turn. If you find one false, say at which input.
  Laid BY PROGRAM, IN A SANDBOX (cutbox-rows.mjs): the forced cells as the released guide's own fill.sh prints them over the translation 5e3f2aac1e82e8f3… (all of the seat's roots in one cut). By AI agents, Wed Nov 11 2026. No macro, syntax, notation, axiom, sorry.
-/
import Derived.Test.YtdbahildcecgbaaDoorChecked
import GoSem.Claim
import GoSem.ClaimJoined
import GoSem.ClaimMapViews
import Derived.JoinedTies
import Derived.KernelRfl
namespace Go.Proofs.YtdbahildcecgbaaDoor
/- THE CELL 'sum', in the pinned program and in every row, IS THE sha256 OF THE DUMP (.gsa) THAT YtdbahildcecgbaaDoorProg.lean LOADS. Nothing in Lean hashes anything: it is a label: what it is worth is what the hold of that sum in a sandbox is worth. -/
noncomputable def Tryd.pinned : Pinned := { name := "ytdbahildcecgbaadoor", sum := "5e3f2aac1e82e8f35655a3cd4a6d9329a85fc7d48369d607fc971a3ca494f456", checked := Tryd.checked }
namespace Rows
def none {H : Type} : Left H := { results := [], args := [] }

/- WHAT THE LISTED PACKAGE-LEVEL VARIABLES READ AS WHEN THE CALL BEGINS. Each datum BY PROGRAM (the guide's laid-datum.mjs) off the statement by which the dump's own 'gosem.cut.vars' lays the variable. In a bare row this is a premise. The card (YtdbahildcecgbaaDoorCards.lean) ties it to the program's text. -/
def laid_loop_example_g00221_impl_functionWords {H : Type} : DataW H := .agg [.lit (.string []), .lit (.string [105, 110, 116, 101, 114, 101, 115, 116]), .lit (.string [105, 110, 115, 116, 97, 108, 109, 101, 110, 116]), .lit (.string [108, 97, 116, 101, 114]), .lit (.string [100, 97, 121, 115]), .lit (.string [108, 101, 97, 115, 116]), .lit (.string [109, 111, 115, 116]), .lit (.string [115, 104, 97, 114, 101])]
def laid_loop_example_g00221_impl_insShapes {H : Type} : DataW H := .agg [.agg [.lit (.string []), .lit (.int .i64 0), .lit (.int .i64 0), .lit (.int .i64 0), .lit (.int .i64 0), .lit (.bool false)], .agg [.lit (.string [103, 97, 115]), .lit (.int .i64 0), .lit (.int .i64 0), .lit (.int .i64 0), .lit (.int .i64 0), .lit (.bool false)], .agg [.lit (.string [112, 117, 115, 104]), .lit (.int .i64 1), .lit (.int .i64 0), .lit (.int .i64 0), .lit (.int .i64 1), .lit (.bool false)], .agg [.lit (.string [108, 111, 97, 100]), .lit (.int .i64 2), .lit (.int .i64 0), .lit (.int .i64 0), .lit (.int .i64 1), .lit (.bool false)], .agg [.lit (.string [115, 116, 111, 114, 101]), .lit (.int .i64 2), .lit (.int .i64 0), .lit (.int .i64 1), .lit (.int .i64 0), .lit (.bool false)], .agg [.lit (.string [112, 97, 114, 97, 109]), .lit (.int .i64 3), .lit (.int .i64 0), .lit (.int .i64 0), .lit (.int .i64 1), .lit (.bool false)], .agg [.lit (.string [98, 97, 108]), .lit (.int .i64 4), .lit (.int .i64 0), .lit (.int .i64 0), .lit (.int .i64 1), .lit (.bool false)], .agg [.lit (.string [116, 111, 100, 97, 121]), .lit (.int .i64 0), .lit (.int .i64 0), .lit (.int .i64 0), .lit (.int .i64 1), .lit (.bool false)], .agg [.lit (.string [115, 105, 110, 99, 101]), .lit (.int .i64 0), .lit (.int .i64 0), .lit (.int .i64 0), .lit (.int .i64 1), .lit (.bool false)], .agg [.lit (.string [99, 111, 117, 110, 116]), .lit (.int .i64 0), .lit (.int .i64 0), .lit (.int .i64 0), .lit (.int .i64 1), .lit (.bool false)], .agg [.lit (.string [97, 109, 111, 117, 110, 116]), .lit (.int .i64 0), .lit (.int .i64 0), .lit (.int .i64 0), .lit (.int .i64 1), .lit (.bool false)], .agg [.lit (.string [97, 100, 100]), .lit (.int .i64 0), .lit (.int .i64 0), .lit (.int .i64 2), .lit (.int .i64 1), .lit (.bool false)], .agg [.lit (.string [115, 117, 98]), .lit (.int .i64 0), .lit (.int .i64 0), .lit (.int .i64 2), .lit (.int .i64 1), .lit (.bool false)], .agg [.lit (.string [109, 117, 108]), .lit (.int .i64 0), .lit (.int .i64 0), .lit (.int .i64 2), .lit (.int .i64 1), .lit (.bool false)], .agg [.lit (.string [108, 101, 115, 115]), .lit (.int .i64 0), .lit (.int .i64 0), .lit (.int .i64 2), .lit (.int .i64 1), .lit (.bool false)], .agg [.lit (.string [97, 116, 109, 111, 115, 116]), .lit (.int .i64 0), .lit (.int .i64 0), .lit (.int .i64 2), .lit (.int .i64 1), .lit (.bool false)], .agg [.lit (.string [115, 97, 109, 101]), .lit (.int .i64 0), .lit (.int .i64 0), .lit (.int .i64 2), .lit (.int .i64 1), .lit (.bool false)], .agg [.lit (.string [97, 110, 100]), .lit (.int .i64 0), .lit (.int .i64 0), .lit (.int .i64 2), .lit (.int .i64 1), .lit (.bool false)], .agg [.lit (.string [111, 114]), .lit (.int .i64 0), .lit (.int .i64 0), .lit (.int .i64 2), .lit (.int .i64 1), .lit (.bool false)], .agg [.lit (.string [110, 111, 116]), .lit (.int .i64 0), .lit (.int .i64 0), .lit (.int .i64 1), .lit (.int .i64 1), .lit (.bool false)], .agg [.lit (.string [99, 97, 108, 108]), .lit (.int .i64 5), .lit (.int .i64 0), .lit (.int .i64 0), .lit (.int .i64 1), .lit (.bool false)], .agg [.lit (.string [106, 122]), .lit (.int .i64 6), .lit (.int .i64 0), .lit (.int .i64 1), .lit (.int .i64 0), .lit (.bool false)], .agg [.lit (.string [106, 117, 109, 112]), .lit (.int .i64 6), .lit (.int .i64 0), .lit (.int .i64 0), .lit (.int .i64 0), .lit (.bool true)], .agg [.lit (.string [112, 111, 115, 116]), .lit (.int .i64 7), .lit (.int .i64 7), .lit (.int .i64 1), .lit (.int .i64 0), .lit (.bool false)], .agg [.lit (.string [114, 101, 106, 101, 99, 116]), .lit (.int .i64 8), .lit (.int .i64 0), .lit (.int .i64 0), .lit (.int .i64 0), .lit (.bool true)], .agg [.lit (.string [110, 101, 120, 116]), .lit (.int .i64 0), .lit (.int .i64 0), .lit (.int .i64 1), .lit (.int .i64 0), .lit (.bool false)], .agg [.lit (.string [101, 110, 100]), .lit (.int .i64 0), .lit (.int .i64 0), .lit (.int .i64 0), .lit (.int .i64 0), .lit (.bool true)]]

/-- 'laws.FnExactModuleRead': WHATEVER THE INPUT: true; the input reads as it did. -/
def fnExactModuleReadSpec : ChangeSpec := { name := "fnExactModuleRead", vars := ["loop.example/g00221/impl.insShapes", "loop.example/g00221/impl.functionWords"], fn := fun _ => fun
  | [d, g1, g2] => { results := [.lit (.bool true)], args := [d], vars := [g1, g2] }
  | _ => none }
def fnExactModuleReadRow : OpenClaim := { program := "ytdbahildcecgbaadoor", sum := "5e3f2aac1e82e8f35655a3cd4a6d9329a85fc7d48369d607fc971a3ca494f456", func := "loop.example/g00221/laws.FnExactModuleRead", spec := "fnExactModuleRead", named := ["loop.example/g00221/impl.insShapes", "loop.example/g00221/impl.functionWords"], apart := false, laid := [("loop.example/g00221/impl.functionWords", laid_loop_example_g00221_impl_functionWords), ("loop.example/g00221/impl.insShapes", laid_loop_example_g00221_impl_insShapes)] }
def FnExactModuleReadSaid : Prop := fnExactModuleReadRow.holds Tryd.pinned (OpenSpec.ofChange fnExactModuleReadSpec)

/-- ITS FALSE NEIGHBOUR: 'it returns false'. Refute it at one input. -/
def fnExactModuleReadWrong : ChangeSpec := { name := "fnExactModuleRead", vars := ["loop.example/g00221/impl.insShapes", "loop.example/g00221/impl.functionWords"], fn := fun _ => fun
  | [d, g1, g2] => { results := [.lit (.bool false)], args := [d], vars := [g1, g2] }
  | _ => none }
def FnExactModuleReadWrongFalsely : Prop := fnExactModuleReadRow.holds Tryd.pinned (OpenSpec.ofChange fnExactModuleReadWrong)

/-- 'laws.FnExactFunctionNumber': WHATEVER THE INPUT: true; the input reads as it did. -/
def fnExactFunctionNumberSpec : ChangeSpec := { name := "fnExactFunctionNumber", vars := ["loop.example/g00221/impl.functionWords"], fn := fun _ => fun
  | [d, g1] => { results := [.lit (.bool true)], args := [d], vars := [g1] }
  | _ => none }
def fnExactFunctionNumberRow : OpenClaim := { program := "ytdbahildcecgbaadoor", sum := "5e3f2aac1e82e8f35655a3cd4a6d9329a85fc7d48369d607fc971a3ca494f456", func := "loop.example/g00221/laws.FnExactFunctionNumber", spec := "fnExactFunctionNumber", named := ["loop.example/g00221/impl.functionWords"], apart := false, laid := [("loop.example/g00221/impl.functionWords", laid_loop_example_g00221_impl_functionWords)] }
def FnExactFunctionNumberSaid : Prop := fnExactFunctionNumberRow.holds Tryd.pinned (OpenSpec.ofChange fnExactFunctionNumberSpec)

/-- ITS FALSE NEIGHBOUR: 'it returns false'. Refute it at one input. -/
def fnExactFunctionNumberWrong : ChangeSpec := { name := "fnExactFunctionNumber", vars := ["loop.example/g00221/impl.functionWords"], fn := fun _ => fun
  | [d, g1] => { results := [.lit (.bool false)], args := [d], vars := [g1] }
  | _ => none }
def FnExactFunctionNumberWrongFalsely : Prop := fnExactFunctionNumberRow.holds Tryd.pinned (OpenSpec.ofChange fnExactFunctionNumberWrong)

/- THE SECOND FORM. 'bulk': how many values and letters a reading holds, each counted each time it is reached (what is shared counts as often as it is met; a slice's spare places count too). A statement '..UptoSaid' is the law's where the arguments, and the package variables that the reading takes, are together of bulk at most 1048576: NARROWER than '..Said'. Prove '..Said' where nothing that the law and all that it calls make is longer than what came in: it says more and counts as full. Else prove '..UptoSaid'. A law counts once. -/
mutual
def uptoBulk {H : Type} : DataW H → Nat
  | .lit (.string bytes) => bytes.length + 1
  | .lit _ => 1
  | .nil => 1
  | .ptr d => uptoBulk d + 1
  | .slice elems spare => uptoBulkAll elems + uptoBulkAll spare + 1
  | .agg parts => uptoBulkAll parts + 1
  | .iface _ d => uptoBulk d + 1
  | .map entries => uptoBulkEntries entries + 1
  | .held _ => 1
def uptoBulkAll {H : Type} : List (DataW H) → Nat
  | [] => 0
  | d :: r => uptoBulk d + uptoBulkAll r
def uptoBulkEntries {H : Type} : List (Lit × DataW H) → Nat
  | [] => 0
  | x :: r => uptoBulkEntry x + uptoBulkEntries r
def uptoBulkEntry {H : Type} : Lit × DataW H → Nat
  | (.string bytes, d) => bytes.length + uptoBulk d + 1
  | (_, d) => uptoBulk d + 1
 end
def uptoSmall : (H : Type) → List (DataW H) → Bool := fun _ ds => decide (uptoBulkAll ds ≤ 1048576)
def OpenSpec.upto (s : _root_.Go.ChangeSpec) : _root_.Go.OpenSpec := { _root_.Go.OpenSpec.ofChange s with cond := some uptoSmall }

/-- 'laws.FnExactModuleRead', WHERE WHAT IT READS IS OF BULK AT MOST 1048576: true; the input reads as it did. -/
def fnExactModuleReadUptoRow : OpenClaim := { program := "ytdbahildcecgbaadoor", sum := "5e3f2aac1e82e8f35655a3cd4a6d9329a85fc7d48369d607fc971a3ca494f456", func := "loop.example/g00221/laws.FnExactModuleRead", spec := "fnExactModuleRead", named := ["loop.example/g00221/impl.insShapes", "loop.example/g00221/impl.functionWords"], apart := false, laid := [("loop.example/g00221/impl.functionWords", laid_loop_example_g00221_impl_functionWords), ("loop.example/g00221/impl.insShapes", laid_loop_example_g00221_impl_insShapes)], narrowed := true }
def FnExactModuleReadUptoSaid : Prop := fnExactModuleReadUptoRow.holds Tryd.pinned (OpenSpec.upto fnExactModuleReadSpec)

/-- 'laws.FnExactFunctionNumber', WHERE WHAT IT READS IS OF BULK AT MOST 1048576: true; the input reads as it did. -/
def fnExactFunctionNumberUptoRow : OpenClaim := { program := "ytdbahildcecgbaadoor", sum := "5e3f2aac1e82e8f35655a3cd4a6d9329a85fc7d48369d607fc971a3ca494f456", func := "loop.example/g00221/laws.FnExactFunctionNumber", spec := "fnExactFunctionNumber", named := ["loop.example/g00221/impl.functionWords"], apart := false, laid := [("loop.example/g00221/impl.functionWords", laid_loop_example_g00221_impl_functionWords)], narrowed := true }
def FnExactFunctionNumberUptoSaid : Prop := fnExactFunctionNumberUptoRow.holds Tryd.pinned (OpenSpec.upto fnExactFunctionNumberSpec)

end Rows
end Go.Proofs.YtdbahildcecgbaaDoor
