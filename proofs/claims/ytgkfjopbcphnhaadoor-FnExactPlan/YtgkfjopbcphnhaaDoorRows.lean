/-
  NARROWER THAN 'FOR EVERY INPUT', by the rows' own cells (each row's printed sentence says how): FnInterest: laid · FnInstalment: laid · FnPlan: laid · FnExactSpan: laid · FnExactInterest: laid · FnExactLoanRight: laid · FnExactLoanLeft: laid · FnExactInstalment: laid · FnExactPlan: laid.
  DERIVED. THE GIVEN ROWS OF THIS SEAT. 9 by the template 'for every input the law returns true; each argument reads behind the call as it read before'; 0 by the template 'total and deterministic' (their statements: YtgkfjopbcphnhaaDoorTotals.lean).
  GIVEN WITH THE SEED: the statements are not yours to turn. If you find one false, say at which input.
  Laid BY PROGRAM, IN A SANDBOX (cutbox-rows.mjs): the forced cells as the released guide's own fill.sh prints them over the translation aa70150f0665db9d… (all of the seat's roots in one cut). By AI agents, Wed Nov 11 2026. No macro, syntax, notation, axiom, sorry.
-/
import Derived.Test.YtgkfjopbcphnhaaDoorChecked
import GoSem.Claim
import GoSem.ClaimJoined
import GoSem.ClaimMapViews
import Derived.JoinedTies
import Derived.KernelRfl
namespace Go.Proofs.YtgkfjopbcphnhaaDoor
/- THE CELL 'sum', in the pinned program and in every row, IS THE sha256 OF THE DUMP (.gsa) THAT YtgkfjopbcphnhaaDoorProg.lean LOADS. Nothing in Lean hashes anything: it is a label: what it is worth is what the hold of that sum in a sandbox is worth. -/
noncomputable def Tryd.pinned : Pinned := { name := "ytgkfjopbcphnhaadoor", sum := "aa70150f0665db9d2f9ff07b783553a4553dd81153eff06fea7a18bff826c13c", checked := Tryd.checked }
namespace Rows
def none {H : Type} : Left H := { results := [], args := [] }

/- WHAT THE LISTED PACKAGE-LEVEL VARIABLES READ AS WHEN THE CALL BEGINS. Each datum BY PROGRAM (the guide's laid-datum.mjs) off the statement by which the dump's own 'gosem.cut.vars' lays the variable. In a bare row this is a premise. The card (YtgkfjopbcphnhaaDoorCards.lean) ties it to the program's text. -/
def laid_errors_errorType {H : Type} : DataW H := .iface "internal/reflectlite.rtype" (.agg [.ptr (.lit (.string [101, 114, 114, 111, 114]))])
def laid_loop_example_g00221_impl_monthLengths {H : Type} : DataW H := .agg [.lit (.int .i64 31), .lit (.int .i64 28), .lit (.int .i64 31), .lit (.int .i64 30), .lit (.int .i64 31), .lit (.int .i64 30), .lit (.int .i64 31), .lit (.int .i64 31), .lit (.int .i64 30), .lit (.int .i64 31), .lit (.int .i64 30), .lit (.int .i64 31)]

/-- 'laws.FnInterest': WHATEVER THE INPUT: true; the input reads as it did. -/
def fnInterestSpec : ChangeSpec := { name := "fnInterest", vars := ["loop.example/g00221/impl.monthLengths"], fn := fun _ => fun
  | [d1, d2, g1] => { results := [.lit (.bool true)], args := [d1, d2], vars := [g1] }
  | _ => none }
def fnInterestRow : OpenClaim := { program := "ytgkfjopbcphnhaadoor", sum := "aa70150f0665db9d2f9ff07b783553a4553dd81153eff06fea7a18bff826c13c", func := "loop.example/g00221/laws.FnInterest", spec := "fnInterest", inPlace := ["internal/reflectlite.ValueOf", "(internal/reflectlite.Value).Type", "(internal/reflectlite.Value).IsNil", "internal/reflectlite.TypeOf", "(internal/reflectlite.Value).Elem", "(internal/reflectlite.Value).Set"], unfollowed := true, recurses := true, named := ["loop.example/g00221/impl.monthLengths", "math/bits.divideError", "math/bits.overflowError", "errors.errorType"], apart := false, laid := [("errors.errorType", laid_errors_errorType), ("loop.example/g00221/impl.monthLengths", laid_loop_example_g00221_impl_monthLengths)] }
def FnInterestSaid : Prop := fnInterestRow.holds Tryd.pinned (OpenSpec.ofChange fnInterestSpec)

/-- ITS FALSE NEIGHBOUR: 'it returns false'. Refute it at one input. -/
def fnInterestWrong : ChangeSpec := { name := "fnInterest", vars := ["loop.example/g00221/impl.monthLengths"], fn := fun _ => fun
  | [d1, d2, g1] => { results := [.lit (.bool false)], args := [d1, d2], vars := [g1] }
  | _ => none }
def FnInterestWrongFalsely : Prop := fnInterestRow.holds Tryd.pinned (OpenSpec.ofChange fnInterestWrong)

/-- 'laws.FnInstalment': WHATEVER THE INPUT: true; the input reads as it did. -/
def fnInstalmentSpec : ChangeSpec := { name := "fnInstalment", vars := ["loop.example/g00221/impl.monthLengths"], fn := fun _ => fun
  | [d, g1] => { results := [.lit (.bool true)], args := [d], vars := [g1] }
  | _ => none }
def fnInstalmentRow : OpenClaim := { program := "ytgkfjopbcphnhaadoor", sum := "aa70150f0665db9d2f9ff07b783553a4553dd81153eff06fea7a18bff826c13c", func := "loop.example/g00221/laws.FnInstalment", spec := "fnInstalment", inPlace := ["internal/reflectlite.ValueOf", "(internal/reflectlite.Value).Type", "(internal/reflectlite.Value).IsNil", "internal/reflectlite.TypeOf", "(internal/reflectlite.Value).Elem", "(internal/reflectlite.Value).Set"], unfollowed := true, recurses := true, named := ["loop.example/g00221/impl.monthLengths", "errors.errorType", "math/bits.divideError", "math/bits.overflowError"], apart := false, laid := [("errors.errorType", laid_errors_errorType), ("loop.example/g00221/impl.monthLengths", laid_loop_example_g00221_impl_monthLengths)] }
def FnInstalmentSaid : Prop := fnInstalmentRow.holds Tryd.pinned (OpenSpec.ofChange fnInstalmentSpec)

/-- ITS FALSE NEIGHBOUR: 'it returns false'. Refute it at one input. -/
def fnInstalmentWrong : ChangeSpec := { name := "fnInstalment", vars := ["loop.example/g00221/impl.monthLengths"], fn := fun _ => fun
  | [d, g1] => { results := [.lit (.bool false)], args := [d], vars := [g1] }
  | _ => none }
def FnInstalmentWrongFalsely : Prop := fnInstalmentRow.holds Tryd.pinned (OpenSpec.ofChange fnInstalmentWrong)

/-- 'laws.FnPlan': WHATEVER THE INPUT: true; the input reads as it did. -/
def fnPlanSpec : ChangeSpec := { name := "fnPlan", vars := ["loop.example/g00221/impl.monthLengths"], fn := fun _ => fun
  | [d, g1] => { results := [.lit (.bool true)], args := [d], vars := [g1] }
  | _ => none }
def fnPlanRow : OpenClaim := { program := "ytgkfjopbcphnhaadoor", sum := "aa70150f0665db9d2f9ff07b783553a4553dd81153eff06fea7a18bff826c13c", func := "loop.example/g00221/laws.FnPlan", spec := "fnPlan", inPlace := ["internal/reflectlite.ValueOf", "(internal/reflectlite.Value).Type", "(internal/reflectlite.Value).IsNil", "internal/reflectlite.TypeOf", "(internal/reflectlite.Value).Elem", "(internal/reflectlite.Value).Set"], unfollowed := true, recurses := true, named := ["loop.example/g00221/impl.monthLengths", "errors.errorType", "math/bits.divideError", "math/bits.overflowError"], apart := false, laid := [("errors.errorType", laid_errors_errorType), ("loop.example/g00221/impl.monthLengths", laid_loop_example_g00221_impl_monthLengths)] }
def FnPlanSaid : Prop := fnPlanRow.holds Tryd.pinned (OpenSpec.ofChange fnPlanSpec)

/-- ITS FALSE NEIGHBOUR: 'it returns false'. Refute it at one input. -/
def fnPlanWrong : ChangeSpec := { name := "fnPlan", vars := ["loop.example/g00221/impl.monthLengths"], fn := fun _ => fun
  | [d, g1] => { results := [.lit (.bool false)], args := [d], vars := [g1] }
  | _ => none }
def FnPlanWrongFalsely : Prop := fnPlanRow.holds Tryd.pinned (OpenSpec.ofChange fnPlanWrong)

/-- 'laws.FnExactSpan': WHATEVER THE INPUT: true; the input reads as it did. -/
def fnExactSpanSpec : ChangeSpec := { name := "fnExactSpan", vars := ["loop.example/g00221/impl.monthLengths"], fn := fun _ => fun
  | [d1, d2, d3, g1] => { results := [.lit (.bool true)], args := [d1, d2, d3], vars := [g1] }
  | _ => none }
def fnExactSpanRow : OpenClaim := { program := "ytgkfjopbcphnhaadoor", sum := "aa70150f0665db9d2f9ff07b783553a4553dd81153eff06fea7a18bff826c13c", func := "loop.example/g00221/laws.FnExactSpan", spec := "fnExactSpan", inPlace := ["internal/reflectlite.ValueOf", "(internal/reflectlite.Value).Type", "(internal/reflectlite.Value).IsNil", "internal/reflectlite.TypeOf", "(internal/reflectlite.Value).Elem", "(internal/reflectlite.Value).Set"], unfollowed := true, recurses := true, named := ["loop.example/g00221/impl.monthLengths", "errors.errorType"], apart := false, laid := [("errors.errorType", laid_errors_errorType), ("loop.example/g00221/impl.monthLengths", laid_loop_example_g00221_impl_monthLengths)] }
def FnExactSpanSaid : Prop := fnExactSpanRow.holds Tryd.pinned (OpenSpec.ofChange fnExactSpanSpec)

/-- ITS FALSE NEIGHBOUR: 'it returns false'. Refute it at one input. -/
def fnExactSpanWrong : ChangeSpec := { name := "fnExactSpan", vars := ["loop.example/g00221/impl.monthLengths"], fn := fun _ => fun
  | [d1, d2, d3, g1] => { results := [.lit (.bool false)], args := [d1, d2, d3], vars := [g1] }
  | _ => none }
def FnExactSpanWrongFalsely : Prop := fnExactSpanRow.holds Tryd.pinned (OpenSpec.ofChange fnExactSpanWrong)

/-- 'laws.FnExactInterest': WHATEVER THE INPUT: true; the input reads as it did. -/
def fnExactInterestSpec : ChangeSpec := { name := "fnExactInterest", vars := ["loop.example/g00221/impl.monthLengths"], fn := fun _ => fun
  | [d1, d2, d3, d4, d5, g1] => { results := [.lit (.bool true)], args := [d1, d2, d3, d4, d5], vars := [g1] }
  | _ => none }
def fnExactInterestRow : OpenClaim := { program := "ytgkfjopbcphnhaadoor", sum := "aa70150f0665db9d2f9ff07b783553a4553dd81153eff06fea7a18bff826c13c", func := "loop.example/g00221/laws.FnExactInterest", spec := "fnExactInterest", inPlace := ["internal/reflectlite.ValueOf", "(internal/reflectlite.Value).Type", "(internal/reflectlite.Value).IsNil", "internal/reflectlite.TypeOf", "(internal/reflectlite.Value).Elem", "(internal/reflectlite.Value).Set"], unfollowed := true, recurses := true, named := ["loop.example/g00221/impl.monthLengths", "math/bits.divideError", "math/bits.overflowError", "errors.errorType"], apart := false, laid := [("errors.errorType", laid_errors_errorType), ("loop.example/g00221/impl.monthLengths", laid_loop_example_g00221_impl_monthLengths)] }
def FnExactInterestSaid : Prop := fnExactInterestRow.holds Tryd.pinned (OpenSpec.ofChange fnExactInterestSpec)

/-- ITS FALSE NEIGHBOUR: 'it returns false'. Refute it at one input. -/
def fnExactInterestWrong : ChangeSpec := { name := "fnExactInterest", vars := ["loop.example/g00221/impl.monthLengths"], fn := fun _ => fun
  | [d1, d2, d3, d4, d5, g1] => { results := [.lit (.bool false)], args := [d1, d2, d3, d4, d5], vars := [g1] }
  | _ => none }
def FnExactInterestWrongFalsely : Prop := fnExactInterestRow.holds Tryd.pinned (OpenSpec.ofChange fnExactInterestWrong)

/-- 'laws.FnExactLoanRight': WHATEVER THE INPUT: true; the input reads as it did. -/
def fnExactLoanRightSpec : ChangeSpec := { name := "fnExactLoanRight", vars := ["loop.example/g00221/impl.monthLengths"], fn := fun _ => fun
  | [d, g1] => { results := [.lit (.bool true)], args := [d], vars := [g1] }
  | _ => none }
def fnExactLoanRightRow : OpenClaim := { program := "ytgkfjopbcphnhaadoor", sum := "aa70150f0665db9d2f9ff07b783553a4553dd81153eff06fea7a18bff826c13c", func := "loop.example/g00221/laws.FnExactLoanRight", spec := "fnExactLoanRight", named := ["loop.example/g00221/impl.monthLengths"], apart := false, laid := [("loop.example/g00221/impl.monthLengths", laid_loop_example_g00221_impl_monthLengths)] }
def FnExactLoanRightSaid : Prop := fnExactLoanRightRow.holds Tryd.pinned (OpenSpec.ofChange fnExactLoanRightSpec)

/-- ITS FALSE NEIGHBOUR: 'it returns false'. Refute it at one input. -/
def fnExactLoanRightWrong : ChangeSpec := { name := "fnExactLoanRight", vars := ["loop.example/g00221/impl.monthLengths"], fn := fun _ => fun
  | [d, g1] => { results := [.lit (.bool false)], args := [d], vars := [g1] }
  | _ => none }
def FnExactLoanRightWrongFalsely : Prop := fnExactLoanRightRow.holds Tryd.pinned (OpenSpec.ofChange fnExactLoanRightWrong)

/-- 'laws.FnExactLoanLeft': WHATEVER THE INPUT: true; the input reads as it did. -/
def fnExactLoanLeftSpec : ChangeSpec := { name := "fnExactLoanLeft", vars := ["loop.example/g00221/impl.monthLengths"], fn := fun _ => fun
  | [d1, d2, g1] => { results := [.lit (.bool true)], args := [d1, d2], vars := [g1] }
  | _ => none }
def fnExactLoanLeftRow : OpenClaim := { program := "ytgkfjopbcphnhaadoor", sum := "aa70150f0665db9d2f9ff07b783553a4553dd81153eff06fea7a18bff826c13c", func := "loop.example/g00221/laws.FnExactLoanLeft", spec := "fnExactLoanLeft", inPlace := ["internal/reflectlite.ValueOf", "(internal/reflectlite.Value).Type", "(internal/reflectlite.Value).IsNil", "internal/reflectlite.TypeOf", "(internal/reflectlite.Value).Elem", "(internal/reflectlite.Value).Set"], unfollowed := true, recurses := true, named := ["loop.example/g00221/impl.monthLengths", "errors.errorType", "math/bits.divideError", "math/bits.overflowError"], apart := false, laid := [("errors.errorType", laid_errors_errorType), ("loop.example/g00221/impl.monthLengths", laid_loop_example_g00221_impl_monthLengths)] }
def FnExactLoanLeftSaid : Prop := fnExactLoanLeftRow.holds Tryd.pinned (OpenSpec.ofChange fnExactLoanLeftSpec)

/-- ITS FALSE NEIGHBOUR: 'it returns false'. Refute it at one input. -/
def fnExactLoanLeftWrong : ChangeSpec := { name := "fnExactLoanLeft", vars := ["loop.example/g00221/impl.monthLengths"], fn := fun _ => fun
  | [d1, d2, g1] => { results := [.lit (.bool false)], args := [d1, d2], vars := [g1] }
  | _ => none }
def FnExactLoanLeftWrongFalsely : Prop := fnExactLoanLeftRow.holds Tryd.pinned (OpenSpec.ofChange fnExactLoanLeftWrong)

/-- 'laws.FnExactInstalment': WHATEVER THE INPUT: true; the input reads as it did. -/
def fnExactInstalmentSpec : ChangeSpec := { name := "fnExactInstalment", vars := ["loop.example/g00221/impl.monthLengths"], fn := fun _ => fun
  | [d, g1] => { results := [.lit (.bool true)], args := [d], vars := [g1] }
  | _ => none }
def fnExactInstalmentRow : OpenClaim := { program := "ytgkfjopbcphnhaadoor", sum := "aa70150f0665db9d2f9ff07b783553a4553dd81153eff06fea7a18bff826c13c", func := "loop.example/g00221/laws.FnExactInstalment", spec := "fnExactInstalment", inPlace := ["internal/reflectlite.ValueOf", "(internal/reflectlite.Value).Type", "(internal/reflectlite.Value).IsNil", "internal/reflectlite.TypeOf", "(internal/reflectlite.Value).Elem", "(internal/reflectlite.Value).Set"], unfollowed := true, recurses := true, named := ["loop.example/g00221/impl.monthLengths", "errors.errorType", "math/bits.divideError", "math/bits.overflowError"], apart := false, laid := [("errors.errorType", laid_errors_errorType), ("loop.example/g00221/impl.monthLengths", laid_loop_example_g00221_impl_monthLengths)] }
def FnExactInstalmentSaid : Prop := fnExactInstalmentRow.holds Tryd.pinned (OpenSpec.ofChange fnExactInstalmentSpec)

/-- ITS FALSE NEIGHBOUR: 'it returns false'. Refute it at one input. -/
def fnExactInstalmentWrong : ChangeSpec := { name := "fnExactInstalment", vars := ["loop.example/g00221/impl.monthLengths"], fn := fun _ => fun
  | [d, g1] => { results := [.lit (.bool false)], args := [d], vars := [g1] }
  | _ => none }
def FnExactInstalmentWrongFalsely : Prop := fnExactInstalmentRow.holds Tryd.pinned (OpenSpec.ofChange fnExactInstalmentWrong)

/-- 'laws.FnExactPlan': WHATEVER THE INPUT: true; the input reads as it did. -/
def fnExactPlanSpec : ChangeSpec := { name := "fnExactPlan", vars := ["loop.example/g00221/impl.monthLengths"], fn := fun _ => fun
  | [d, g1] => { results := [.lit (.bool true)], args := [d], vars := [g1] }
  | _ => none }
def fnExactPlanRow : OpenClaim := { program := "ytgkfjopbcphnhaadoor", sum := "aa70150f0665db9d2f9ff07b783553a4553dd81153eff06fea7a18bff826c13c", func := "loop.example/g00221/laws.FnExactPlan", spec := "fnExactPlan", inPlace := ["internal/reflectlite.ValueOf", "(internal/reflectlite.Value).Type", "(internal/reflectlite.Value).IsNil", "internal/reflectlite.TypeOf", "(internal/reflectlite.Value).Elem", "(internal/reflectlite.Value).Set"], unfollowed := true, recurses := true, named := ["loop.example/g00221/impl.monthLengths", "errors.errorType", "math/bits.divideError", "math/bits.overflowError"], apart := false, laid := [("errors.errorType", laid_errors_errorType), ("loop.example/g00221/impl.monthLengths", laid_loop_example_g00221_impl_monthLengths)] }
def FnExactPlanSaid : Prop := fnExactPlanRow.holds Tryd.pinned (OpenSpec.ofChange fnExactPlanSpec)

/-- ITS FALSE NEIGHBOUR: 'it returns false'. Refute it at one input. -/
def fnExactPlanWrong : ChangeSpec := { name := "fnExactPlan", vars := ["loop.example/g00221/impl.monthLengths"], fn := fun _ => fun
  | [d, g1] => { results := [.lit (.bool false)], args := [d], vars := [g1] }
  | _ => none }
def FnExactPlanWrongFalsely : Prop := fnExactPlanRow.holds Tryd.pinned (OpenSpec.ofChange fnExactPlanWrong)

/- THE SECOND FORM. 'bulk': how many values and letters a reading holds, each counted each time it is reached (what is shared counts as often as it is met; a slice's spare places count too). A statement '..UptoSaid' is the law's where the arguments, and the package variables that the reading takes, are together of bulk at most 1048576: NARROWER than '..Said'. Prove '..Said' where nothing that the law and all that it calls make is longer than what came in: it says more and counts as full. Else prove '..UptoSaid'. A law counts once. -/
mutual
def uptoBulk {H : Type} : DataW H → Nat
  | .lit (.string bytes) => bytes.length + 1
  | .lit _ => 1
  | .nil => 1
  | .ptr d => uptoBulk d + 1
  | .slice elems spare => uptoBulkAll elems + uptoBulkAll spare + 1
  | .agg parts => uptoBulkAll parts + 1
  | .iface _ d => uptoBulk d + 1
  | .map entries => uptoBulkEntries entries + 1
  | .held _ => 1
def uptoBulkAll {H : Type} : List (DataW H) → Nat
  | [] => 0
  | d :: r => uptoBulk d + uptoBulkAll r
def uptoBulkEntries {H : Type} : List (Lit × DataW H) → Nat
  | [] => 0
  | x :: r => uptoBulkEntry x + uptoBulkEntries r
def uptoBulkEntry {H : Type} : Lit × DataW H → Nat
  | (.string bytes, d) => bytes.length + uptoBulk d + 1
  | (_, d) => uptoBulk d + 1
 end
def uptoSmall : (H : Type) → List (DataW H) → Bool := fun _ ds => decide (uptoBulkAll ds ≤ 1048576)
def OpenSpec.upto (s : _root_.Go.ChangeSpec) : _root_.Go.OpenSpec := { _root_.Go.OpenSpec.ofChange s with cond := some uptoSmall }

/-- 'laws.FnInterest', WHERE WHAT IT READS IS OF BULK AT MOST 1048576: true; the input reads as it did. -/
def fnInterestUptoRow : OpenClaim := { program := "ytgkfjopbcphnhaadoor", sum := "aa70150f0665db9d2f9ff07b783553a4553dd81153eff06fea7a18bff826c13c", func := "loop.example/g00221/laws.FnInterest", spec := "fnInterest", inPlace := ["internal/reflectlite.ValueOf", "(internal/reflectlite.Value).Type", "(internal/reflectlite.Value).IsNil", "internal/reflectlite.TypeOf", "(internal/reflectlite.Value).Elem", "(internal/reflectlite.Value).Set"], unfollowed := true, recurses := true, named := ["loop.example/g00221/impl.monthLengths", "math/bits.divideError", "math/bits.overflowError", "errors.errorType"], apart := false, laid := [("errors.errorType", laid_errors_errorType), ("loop.example/g00221/impl.monthLengths", laid_loop_example_g00221_impl_monthLengths)], narrowed := true }
def FnInterestUptoSaid : Prop := fnInterestUptoRow.holds Tryd.pinned (OpenSpec.upto fnInterestSpec)

/-- 'laws.FnInstalment', WHERE WHAT IT READS IS OF BULK AT MOST 1048576: true; the input reads as it did. -/
def fnInstalmentUptoRow : OpenClaim := { program := "ytgkfjopbcphnhaadoor", sum := "aa70150f0665db9d2f9ff07b783553a4553dd81153eff06fea7a18bff826c13c", func := "loop.example/g00221/laws.FnInstalment", spec := "fnInstalment", inPlace := ["internal/reflectlite.ValueOf", "(internal/reflectlite.Value).Type", "(internal/reflectlite.Value).IsNil", "internal/reflectlite.TypeOf", "(internal/reflectlite.Value).Elem", "(internal/reflectlite.Value).Set"], unfollowed := true, recurses := true, named := ["loop.example/g00221/impl.monthLengths", "errors.errorType", "math/bits.divideError", "math/bits.overflowError"], apart := false, laid := [("errors.errorType", laid_errors_errorType), ("loop.example/g00221/impl.monthLengths", laid_loop_example_g00221_impl_monthLengths)], narrowed := true }
def FnInstalmentUptoSaid : Prop := fnInstalmentUptoRow.holds Tryd.pinned (OpenSpec.upto fnInstalmentSpec)

/-- 'laws.FnPlan', WHERE WHAT IT READS IS OF BULK AT MOST 1048576: true; the input reads as it did. -/
def fnPlanUptoRow : OpenClaim := { program := "ytgkfjopbcphnhaadoor", sum := "aa70150f0665db9d2f9ff07b783553a4553dd81153eff06fea7a18bff826c13c", func := "loop.example/g00221/laws.FnPlan", spec := "fnPlan", inPlace := ["internal/reflectlite.ValueOf", "(internal/reflectlite.Value).Type", "(internal/reflectlite.Value).IsNil", "internal/reflectlite.TypeOf", "(internal/reflectlite.Value).Elem", "(internal/reflectlite.Value).Set"], unfollowed := true, recurses := true, named := ["loop.example/g00221/impl.monthLengths", "errors.errorType", "math/bits.divideError", "math/bits.overflowError"], apart := false, laid := [("errors.errorType", laid_errors_errorType), ("loop.example/g00221/impl.monthLengths", laid_loop_example_g00221_impl_monthLengths)], narrowed := true }
def FnPlanUptoSaid : Prop := fnPlanUptoRow.holds Tryd.pinned (OpenSpec.upto fnPlanSpec)

/-- 'laws.FnExactSpan', WHERE WHAT IT READS IS OF BULK AT MOST 1048576: true; the input reads as it did. -/
def fnExactSpanUptoRow : OpenClaim := { program := "ytgkfjopbcphnhaadoor", sum := "aa70150f0665db9d2f9ff07b783553a4553dd81153eff06fea7a18bff826c13c", func := "loop.example/g00221/laws.FnExactSpan", spec := "fnExactSpan", inPlace := ["internal/reflectlite.ValueOf", "(internal/reflectlite.Value).Type", "(internal/reflectlite.Value).IsNil", "internal/reflectlite.TypeOf", "(internal/reflectlite.Value).Elem", "(internal/reflectlite.Value).Set"], unfollowed := true, recurses := true, named := ["loop.example/g00221/impl.monthLengths", "errors.errorType"], apart := false, laid := [("errors.errorType", laid_errors_errorType), ("loop.example/g00221/impl.monthLengths", laid_loop_example_g00221_impl_monthLengths)], narrowed := true }
def FnExactSpanUptoSaid : Prop := fnExactSpanUptoRow.holds Tryd.pinned (OpenSpec.upto fnExactSpanSpec)

/-- 'laws.FnExactInterest', WHERE WHAT IT READS IS OF BULK AT MOST 1048576: true; the input reads as it did. -/
def fnExactInterestUptoRow : OpenClaim := { program := "ytgkfjopbcphnhaadoor", sum := "aa70150f0665db9d2f9ff07b783553a4553dd81153eff06fea7a18bff826c13c", func := "loop.example/g00221/laws.FnExactInterest", spec := "fnExactInterest", inPlace := ["internal/reflectlite.ValueOf", "(internal/reflectlite.Value).Type", "(internal/reflectlite.Value).IsNil", "internal/reflectlite.TypeOf", "(internal/reflectlite.Value).Elem", "(internal/reflectlite.Value).Set"], unfollowed := true, recurses := true, named := ["loop.example/g00221/impl.monthLengths", "math/bits.divideError", "math/bits.overflowError", "errors.errorType"], apart := false, laid := [("errors.errorType", laid_errors_errorType), ("loop.example/g00221/impl.monthLengths", laid_loop_example_g00221_impl_monthLengths)], narrowed := true }
def FnExactInterestUptoSaid : Prop := fnExactInterestUptoRow.holds Tryd.pinned (OpenSpec.upto fnExactInterestSpec)

/-- 'laws.FnExactLoanRight', WHERE WHAT IT READS IS OF BULK AT MOST 1048576: true; the input reads as it did. -/
def fnExactLoanRightUptoRow : OpenClaim := { program := "ytgkfjopbcphnhaadoor", sum := "aa70150f0665db9d2f9ff07b783553a4553dd81153eff06fea7a18bff826c13c", func := "loop.example/g00221/laws.FnExactLoanRight", spec := "fnExactLoanRight", named := ["loop.example/g00221/impl.monthLengths"], apart := false, laid := [("loop.example/g00221/impl.monthLengths", laid_loop_example_g00221_impl_monthLengths)], narrowed := true }
def FnExactLoanRightUptoSaid : Prop := fnExactLoanRightUptoRow.holds Tryd.pinned (OpenSpec.upto fnExactLoanRightSpec)

/-- 'laws.FnExactLoanLeft', WHERE WHAT IT READS IS OF BULK AT MOST 1048576: true; the input reads as it did. -/
def fnExactLoanLeftUptoRow : OpenClaim := { program := "ytgkfjopbcphnhaadoor", sum := "aa70150f0665db9d2f9ff07b783553a4553dd81153eff06fea7a18bff826c13c", func := "loop.example/g00221/laws.FnExactLoanLeft", spec := "fnExactLoanLeft", inPlace := ["internal/reflectlite.ValueOf", "(internal/reflectlite.Value).Type", "(internal/reflectlite.Value).IsNil", "internal/reflectlite.TypeOf", "(internal/reflectlite.Value).Elem", "(internal/reflectlite.Value).Set"], unfollowed := true, recurses := true, named := ["loop.example/g00221/impl.monthLengths", "errors.errorType", "math/bits.divideError", "math/bits.overflowError"], apart := false, laid := [("errors.errorType", laid_errors_errorType), ("loop.example/g00221/impl.monthLengths", laid_loop_example_g00221_impl_monthLengths)], narrowed := true }
def FnExactLoanLeftUptoSaid : Prop := fnExactLoanLeftUptoRow.holds Tryd.pinned (OpenSpec.upto fnExactLoanLeftSpec)

/-- 'laws.FnExactInstalment', WHERE WHAT IT READS IS OF BULK AT MOST 1048576: true; the input reads as it did. -/
def fnExactInstalmentUptoRow : OpenClaim := { program := "ytgkfjopbcphnhaadoor", sum := "aa70150f0665db9d2f9ff07b783553a4553dd81153eff06fea7a18bff826c13c", func := "loop.example/g00221/laws.FnExactInstalment", spec := "fnExactInstalment", inPlace := ["internal/reflectlite.ValueOf", "(internal/reflectlite.Value).Type", "(internal/reflectlite.Value).IsNil", "internal/reflectlite.TypeOf", "(internal/reflectlite.Value).Elem", "(internal/reflectlite.Value).Set"], unfollowed := true, recurses := true, named := ["loop.example/g00221/impl.monthLengths", "errors.errorType", "math/bits.divideError", "math/bits.overflowError"], apart := false, laid := [("errors.errorType", laid_errors_errorType), ("loop.example/g00221/impl.monthLengths", laid_loop_example_g00221_impl_monthLengths)], narrowed := true }
def FnExactInstalmentUptoSaid : Prop := fnExactInstalmentUptoRow.holds Tryd.pinned (OpenSpec.upto fnExactInstalmentSpec)

/-- 'laws.FnExactPlan', WHERE WHAT IT READS IS OF BULK AT MOST 1048576: true; the input reads as it did. -/
def fnExactPlanUptoRow : OpenClaim := { program := "ytgkfjopbcphnhaadoor", sum := "aa70150f0665db9d2f9ff07b783553a4553dd81153eff06fea7a18bff826c13c", func := "loop.example/g00221/laws.FnExactPlan", spec := "fnExactPlan", inPlace := ["internal/reflectlite.ValueOf", "(internal/reflectlite.Value).Type", "(internal/reflectlite.Value).IsNil", "internal/reflectlite.TypeOf", "(internal/reflectlite.Value).Elem", "(internal/reflectlite.Value).Set"], unfollowed := true, recurses := true, named := ["loop.example/g00221/impl.monthLengths", "errors.errorType", "math/bits.divideError", "math/bits.overflowError"], apart := false, laid := [("errors.errorType", laid_errors_errorType), ("loop.example/g00221/impl.monthLengths", laid_loop_example_g00221_impl_monthLengths)], narrowed := true }
def FnExactPlanUptoSaid : Prop := fnExactPlanUptoRow.holds Tryd.pinned (OpenSpec.upto fnExactPlanSpec)

end Rows
end Go.Proofs.YtgkfjopbcphnhaaDoor
