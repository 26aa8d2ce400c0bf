/-
  No cell of these rows narrows 'for every input' (looked for: loops, veiled, ifaces, maps, wideKeys, modest, calm, conditions, laid).
  DERIVED. THE GIVEN ROWS OF THIS SEAT. 3 by the template 'for every input the law returns true; each argument reads behind the call as it read before'; 0 by the template 'total and deterministic' (their statements: YthjanamnkhggfaaTotals.lean).
  GIVEN WITH THE SEED: the statements are not yours to turn. If you find one false, say at which input.
  Laid BY PROGRAM, IN A SANDBOX (cutbox-rows.mjs): the forced cells as the released guide's own fill.sh prints them over the translation 08d7678b46663456… (all of the seat's roots in one cut). By AI agents, Wed Nov 11 2026. No macro, syntax, notation, axiom, sorry.
-/
import Derived.Test.YthjanamnkhggfaaChecked
import GoSem.Claim
import GoSem.ClaimJoined
import GoSem.ClaimMapViews
import Derived.JoinedTies
import Derived.KernelRfl
namespace Go.Proofs.Ythjanamnkhggfaa
/- THE CELL 'sum', in the pinned program and in every row, IS THE sha256 OF THE DUMP (.gsa) THAT YthjanamnkhggfaaProg.lean LOADS. Nothing in Lean hashes anything: it is a label: what it is worth is what the hold of that sum in a sandbox is worth. -/
noncomputable def Try.pinned : Pinned := { name := "ythjanamnkhggfaa", sum := "08d7678b46663456679ddb5a884ac27d8c6d350b2782599c22338a9e85621d47", checked := Try.checked }
namespace Rows
def none {H : Type} : Left H := { results := [], args := [] }

/-- 'laws.FnExactBookRight': WHATEVER THE INPUT: true; the input reads as it did. -/
def fnExactBookRightSpec : ChangeSpec := { name := "fnExactBookRight", fn := fun _ => fun
  | [d] => { results := [.lit (.bool true)], args := [d] }
  | _ => none }
def fnExactBookRightRow : OpenClaim := { program := "ythjanamnkhggfaa", sum := "08d7678b46663456679ddb5a884ac27d8c6d350b2782599c22338a9e85621d47", func := "loop.example/g00221/laws.FnExactBookRight", spec := "fnExactBookRight", inPlace := ["internal/bytealg.abigen_runtime_cmpstring"], plainKeys := false, apart := false }
def FnExactBookRightSaid : Prop := fnExactBookRightRow.holds Try.pinned (OpenSpec.ofChange fnExactBookRightSpec)

/-- ITS FALSE NEIGHBOUR: 'it returns false'. Refute it at one input. -/
def fnExactBookRightWrong : ChangeSpec := { name := "fnExactBookRight", fn := fun _ => fun
  | [d] => { results := [.lit (.bool false)], args := [d] }
  | _ => none }
def FnExactBookRightWrongFalsely : Prop := fnExactBookRightRow.holds Try.pinned (OpenSpec.ofChange fnExactBookRightWrong)

/-- 'laws.FnExactLegsRight': WHATEVER THE INPUT: true; the input reads as it did. -/
def fnExactLegsRightSpec : ChangeSpec := { name := "fnExactLegsRight", fn := fun _ => fun
  | [d] => { results := [.lit (.bool true)], args := [d] }
  | _ => none }
def fnExactLegsRightRow : OpenClaim := { program := "ythjanamnkhggfaa", sum := "08d7678b46663456679ddb5a884ac27d8c6d350b2782599c22338a9e85621d47", func := "loop.example/g00221/laws.FnExactLegsRight", spec := "fnExactLegsRight", plainKeys := false, apart := false }
def FnExactLegsRightSaid : Prop := fnExactLegsRightRow.holds Try.pinned (OpenSpec.ofChange fnExactLegsRightSpec)

/-- ITS FALSE NEIGHBOUR: 'it returns false'. Refute it at one input. -/
def fnExactLegsRightWrong : ChangeSpec := { name := "fnExactLegsRight", fn := fun _ => fun
  | [d] => { results := [.lit (.bool false)], args := [d] }
  | _ => none }
def FnExactLegsRightWrongFalsely : Prop := fnExactLegsRightRow.holds Try.pinned (OpenSpec.ofChange fnExactLegsRightWrong)

/-- 'laws.FnExactLegsBack': WHATEVER THE INPUT: true; the input reads as it did. -/
def fnExactLegsBackSpec : ChangeSpec := { name := "fnExactLegsBack", fn := fun _ => fun
  | [d] => { results := [.lit (.bool true)], args := [d] }
  | _ => none }
def fnExactLegsBackRow : OpenClaim := { program := "ythjanamnkhggfaa", sum := "08d7678b46663456679ddb5a884ac27d8c6d350b2782599c22338a9e85621d47", func := "loop.example/g00221/laws.FnExactLegsBack", spec := "fnExactLegsBack", plainKeys := false, apart := false }
def FnExactLegsBackSaid : Prop := fnExactLegsBackRow.holds Try.pinned (OpenSpec.ofChange fnExactLegsBackSpec)

/-- ITS FALSE NEIGHBOUR: 'it returns false'. Refute it at one input. -/
def fnExactLegsBackWrong : ChangeSpec := { name := "fnExactLegsBack", fn := fun _ => fun
  | [d] => { results := [.lit (.bool false)], args := [d] }
  | _ => none }
def FnExactLegsBackWrongFalsely : Prop := fnExactLegsBackRow.holds Try.pinned (OpenSpec.ofChange fnExactLegsBackWrong)

/- THE SECOND FORM. 'bulk': how many values and letters a reading holds, each counted each time it is reached (what is shared counts as often as it is met; a slice's spare places count too). A statement '..UptoSaid' is the law's where the arguments, and the package variables that the reading takes, are together of bulk at most 1048576: NARROWER than '..Said'. Prove '..Said' where nothing that the law and all that it calls make is longer than what came in: it says more and counts as full. Else prove '..UptoSaid'. A law counts once. -/
mutual
def uptoBulk {H : Type} : DataW H → Nat
  | .lit (.string bytes) => bytes.length + 1
  | .lit _ => 1
  | .nil => 1
  | .ptr d => uptoBulk d + 1
  | .slice elems spare => uptoBulkAll elems + uptoBulkAll spare + 1
  | .agg parts => uptoBulkAll parts + 1
  | .iface _ d => uptoBulk d + 1
  | .map entries => uptoBulkEntries entries + 1
  | .held _ => 1
def uptoBulkAll {H : Type} : List (DataW H) → Nat
  | [] => 0
  | d :: r => uptoBulk d + uptoBulkAll r
def uptoBulkEntries {H : Type} : List (Lit × DataW H) → Nat
  | [] => 0
  | x :: r => uptoBulkEntry x + uptoBulkEntries r
def uptoBulkEntry {H : Type} : Lit × DataW H → Nat
  | (.string bytes, d) => bytes.length + uptoBulk d + 1
  | (_, d) => uptoBulk d + 1
 end
def uptoSmall : (H : Type) → List (DataW H) → Bool := fun _ ds => decide (uptoBulkAll ds ≤ 1048576)
def OpenSpec.upto (s : _root_.Go.ChangeSpec) : _root_.Go.OpenSpec := { _root_.Go.OpenSpec.ofChange s with cond := some uptoSmall }

/-- 'laws.FnExactBookRight', WHERE WHAT IT READS IS OF BULK AT MOST 1048576: true; the input reads as it did. -/
def fnExactBookRightUptoRow : OpenClaim := { program := "ythjanamnkhggfaa", sum := "08d7678b46663456679ddb5a884ac27d8c6d350b2782599c22338a9e85621d47", func := "loop.example/g00221/laws.FnExactBookRight", spec := "fnExactBookRight", inPlace := ["internal/bytealg.abigen_runtime_cmpstring"], plainKeys := false, apart := false, narrowed := true }
def FnExactBookRightUptoSaid : Prop := fnExactBookRightUptoRow.holds Try.pinned (OpenSpec.upto fnExactBookRightSpec)

/-- 'laws.FnExactLegsRight', WHERE WHAT IT READS IS OF BULK AT MOST 1048576: true; the input reads as it did. -/
def fnExactLegsRightUptoRow : OpenClaim := { program := "ythjanamnkhggfaa", sum := "08d7678b46663456679ddb5a884ac27d8c6d350b2782599c22338a9e85621d47", func := "loop.example/g00221/laws.FnExactLegsRight", spec := "fnExactLegsRight", plainKeys := false, apart := false, narrowed := true }
def FnExactLegsRightUptoSaid : Prop := fnExactLegsRightUptoRow.holds Try.pinned (OpenSpec.upto fnExactLegsRightSpec)

/-- 'laws.FnExactLegsBack', WHERE WHAT IT READS IS OF BULK AT MOST 1048576: true; the input reads as it did. -/
def fnExactLegsBackUptoRow : OpenClaim := { program := "ythjanamnkhggfaa", sum := "08d7678b46663456679ddb5a884ac27d8c6d350b2782599c22338a9e85621d47", func := "loop.example/g00221/laws.FnExactLegsBack", spec := "fnExactLegsBack", plainKeys := false, apart := false, narrowed := true }
def FnExactLegsBackUptoSaid : Prop := fnExactLegsBackUptoRow.holds Try.pinned (OpenSpec.upto fnExactLegsBackSpec)

end Rows
end Go.Proofs.Ythjanamnkhggfaa
