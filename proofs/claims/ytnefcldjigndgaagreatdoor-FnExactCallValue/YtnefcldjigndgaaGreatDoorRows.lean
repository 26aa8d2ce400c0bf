/-
  NARROWER THAN 'FOR EVERY INPUT', by the rows' own cells (each row's printed sentence says how): FnExactCallValue: laid.
  DERIVED. THE GIVEN ROWS OF THIS SEAT. 1 by the template 'for every input the law returns true; each argument reads behind the call as it read before'; 0 by the template 'total and deterministic' (their statements: YtnefcldjigndgaaGreatDoorTotals.lean).
  GIVEN WITH THE SEED: the statements are not yours to turn. If you find one false, say at which input.
  Laid BY PROGRAM, IN A SANDBOX (cutbox-rows.mjs): the forced cells as the released guide's own fill.sh prints them over the translation f3aaa6f27479d9e0… (all of the seat's roots in one cut). By AI agents, Wed Nov 11 2026. No macro, syntax, notation, axiom, sorry.
-/
import Derived.Test.YtnefcldjigndgaaGreatDoorChecked
import GoSem.Claim
import GoSem.ClaimJoined
import GoSem.ClaimMapViews
import Derived.JoinedTies
import Derived.KernelRfl
namespace Go.Proofs.YtnefcldjigndgaaGreatDoor
/- THE CELL 'sum', in the pinned program and in every row, IS THE sha256 OF THE DUMP (.gsa) THAT YtnefcldjigndgaaGreatDoorProg.lean LOADS. Nothing in Lean hashes anything: it is a label: what it is worth is what the hold of that sum in a sandbox is worth. -/
noncomputable def Tryz.pinned : Pinned := { name := "ytnefcldjigndgaagreatdoor", sum := "f3aaa6f27479d9e07a3012736cc934fec3c4d3796d713f76fdb336fa2feb3c4d", checked := Tryz.checked }
namespace Rows
def none {H : Type} : Left H := { results := [], args := [] }

/- WHAT THE LISTED PACKAGE-LEVEL VARIABLES READ AS WHEN THE CALL BEGINS. Each datum BY PROGRAM (the guide's laid-datum.mjs) off the statement by which the dump's own 'gosem.cut.vars' lays the variable. In a bare row this is a premise. The card (YtnefcldjigndgaaGreatDoorCards.lean) ties it to the program's text. -/
def laid_errors_errorType {H : Type} : DataW H := .iface "internal/reflectlite.rtype" (.agg [.ptr (.lit (.string [101, 114, 114, 111, 114]))])
def laid_loop_example_g00221_impl_monthLengths {H : Type} : DataW H := .agg [.lit (.int .i64 31), .lit (.int .i64 28), .lit (.int .i64 31), .lit (.int .i64 30), .lit (.int .i64 31), .lit (.int .i64 30), .lit (.int .i64 31), .lit (.int .i64 31), .lit (.int .i64 30), .lit (.int .i64 31), .lit (.int .i64 30), .lit (.int .i64 31)]
def laid_loop_example_g00221_impl_functionWords {H : Type} : DataW H := .agg [.lit (.string []), .lit (.string [105, 110, 116, 101, 114, 101, 115, 116]), .lit (.string [105, 110, 115, 116, 97, 108, 109, 101, 110, 116]), .lit (.string [108, 97, 116, 101, 114]), .lit (.string [100, 97, 121, 115]), .lit (.string [108, 101, 97, 115, 116]), .lit (.string [109, 111, 115, 116]), .lit (.string [115, 104, 97, 114, 101])]

/-- 'laws.FnExactCallValue': WHATEVER THE INPUT: true; the input reads as it did. -/
def fnExactCallValueSpec : ChangeSpec := { name := "fnExactCallValue", vars := ["loop.example/g00221/impl.functionWords", "loop.example/g00221/impl.monthLengths"], fn := fun _ => fun
  | [d1, d2, d3, g1, g2] => { results := [.lit (.bool true)], args := [d1, d2, d3], vars := [g1, g2] }
  | _ => none }
def fnExactCallValueRow : OpenClaim := { program := "ytnefcldjigndgaagreatdoor", sum := "f3aaa6f27479d9e07a3012736cc934fec3c4d3796d713f76fdb336fa2feb3c4d", func := "loop.example/g00221/laws.FnExactCallValue", spec := "fnExactCallValue", inPlace := ["internal/reflectlite.ValueOf", "(internal/reflectlite.Value).Type", "(internal/reflectlite.Value).IsNil", "internal/reflectlite.TypeOf", "(internal/reflectlite.Value).Elem", "(internal/reflectlite.Value).Set"], unfollowed := true, recurses := true, named := ["loop.example/g00221/impl.functionWords", "loop.example/g00221/impl.monthLengths", "math/bits.divideError", "math/bits.overflowError", "errors.errorType"], apart := false, laid := [("errors.errorType", laid_errors_errorType), ("loop.example/g00221/impl.monthLengths", laid_loop_example_g00221_impl_monthLengths), ("loop.example/g00221/impl.functionWords", laid_loop_example_g00221_impl_functionWords)] }
def FnExactCallValueSaid : Prop := fnExactCallValueRow.holds Tryz.pinned (OpenSpec.ofChange fnExactCallValueSpec)

/-- ITS FALSE NEIGHBOUR: 'it returns false'. Refute it at one input. -/
def fnExactCallValueWrong : ChangeSpec := { name := "fnExactCallValue", vars := ["loop.example/g00221/impl.functionWords", "loop.example/g00221/impl.monthLengths"], fn := fun _ => fun
  | [d1, d2, d3, g1, g2] => { results := [.lit (.bool false)], args := [d1, d2, d3], vars := [g1, g2] }
  | _ => none }
def FnExactCallValueWrongFalsely : Prop := fnExactCallValueRow.holds Tryz.pinned (OpenSpec.ofChange fnExactCallValueWrong)

/- THE SECOND FORM. 'bulk': how many values and letters a reading holds, each counted each time it is reached (what is shared counts as often as it is met; a slice's spare places count too). A statement '..UptoSaid' is the law's where the arguments, and the package variables that the reading takes, are together of bulk at most 1048576: NARROWER than '..Said'. Prove '..Said' where nothing that the law and all that it calls make is longer than what came in: it says more and counts as full. Else prove '..UptoSaid'. A law counts once. -/
mutual
def uptoBulk {H : Type} : DataW H → Nat
  | .lit (.string bytes) => bytes.length + 1
  | .lit _ => 1
  | .nil => 1
  | .ptr d => uptoBulk d + 1
  | .slice elems spare => uptoBulkAll elems + uptoBulkAll spare + 1
  | .agg parts => uptoBulkAll parts + 1
  | .iface _ d => uptoBulk d + 1
  | .map entries => uptoBulkEntries entries + 1
  | .held _ => 1
def uptoBulkAll {H : Type} : List (DataW H) → Nat
  | [] => 0
  | d :: r => uptoBulk d + uptoBulkAll r
def uptoBulkEntries {H : Type} : List (Lit × DataW H) → Nat
  | [] => 0
  | x :: r => uptoBulkEntry x + uptoBulkEntries r
def uptoBulkEntry {H : Type} : Lit × DataW H → Nat
  | (.string bytes, d) => bytes.length + uptoBulk d + 1
  | (_, d) => uptoBulk d + 1
 end
def uptoSmall : (H : Type) → List (DataW H) → Bool := fun _ ds => decide (uptoBulkAll ds ≤ 1048576)
def OpenSpec.upto (s : _root_.Go.ChangeSpec) : _root_.Go.OpenSpec := { _root_.Go.OpenSpec.ofChange s with cond := some uptoSmall }

/-- 'laws.FnExactCallValue', WHERE WHAT IT READS IS OF BULK AT MOST 1048576: true; the input reads as it did. -/
def fnExactCallValueUptoRow : OpenClaim := { program := "ytnefcldjigndgaagreatdoor", sum := "f3aaa6f27479d9e07a3012736cc934fec3c4d3796d713f76fdb336fa2feb3c4d", func := "loop.example/g00221/laws.FnExactCallValue", spec := "fnExactCallValue", inPlace := ["internal/reflectlite.ValueOf", "(internal/reflectlite.Value).Type", "(internal/reflectlite.Value).IsNil", "internal/reflectlite.TypeOf", "(internal/reflectlite.Value).Elem", "(internal/reflectlite.Value).Set"], unfollowed := true, recurses := true, named := ["loop.example/g00221/impl.functionWords", "loop.example/g00221/impl.monthLengths", "math/bits.divideError", "math/bits.overflowError", "errors.errorType"], apart := false, laid := [("errors.errorType", laid_errors_errorType), ("loop.example/g00221/impl.monthLengths", laid_loop_example_g00221_impl_monthLengths), ("loop.example/g00221/impl.functionWords", laid_loop_example_g00221_impl_functionWords)], narrowed := true }
def FnExactCallValueUptoSaid : Prop := fnExactCallValueUptoRow.holds Tryz.pinned (OpenSpec.upto fnExactCallValueSpec)

end Rows
end Go.Proofs.YtnefcldjigndgaaGreatDoor
