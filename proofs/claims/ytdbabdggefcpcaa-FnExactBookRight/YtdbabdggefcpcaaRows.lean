/-
  No cell of these rows narrows 'for every input' (looked for: loops, veiled, ifaces, maps, wideKeys, modest, calm, conditions, laid).
  DERIVED. THE GIVEN ROWS OF THIS SEAT. 9 by the template 'for every input the law returns true; each argument reads behind the call as it read before'; 0 by the template 'total and deterministic' (their statements: YtdbabdggefcpcaaTotals.lean).
  GIVEN WITH THE SEED: the statements are not yours to turn. If you find one false, say at which input.
  Laid BY PROGRAM, IN A SANDBOX (cutbox-rows.mjs): the forced cells as the released guide's own fill.sh prints them over the translation 0293e4f34c61e9bc… (all of the seat's roots in one cut). By AI agents, Wed Nov 11 2026. No macro, syntax, notation, axiom, sorry.
-/
import Derived.Test.YtdbabdggefcpcaaChecked
import GoSem.Claim
import GoSem.ClaimJoined
import GoSem.ClaimMapViews
import Derived.JoinedTies
import Derived.KernelRfl
namespace Go.Proofs.Ytdbabdggefcpcaa
/- THE CELL 'sum', in the pinned program and in every row, IS THE sha256 OF THE DUMP (.gsa) THAT YtdbabdggefcpcaaProg.lean LOADS. Nothing in Lean hashes anything: it is a label: what it is worth is what the hold of that sum in a sandbox is worth. -/
noncomputable def Try.pinned : Pinned := { name := "ytdbabdggefcpcaa", sum := "0293e4f34c61e9bc2b1cc2eba025d6edae1ee5af76478de3b2cf96690930f869", checked := Try.checked }
namespace Rows
def none {H : Type} : Left H := { results := [], args := [] }

/-- 'laws.FnDisk': WHATEVER THE INPUT: true; the input reads as it did. -/
def fnDiskSpec : ChangeSpec := { name := "fnDisk", fn := fun _ => fun
  | [d] => { results := [.lit (.bool true)], args := [d] }
  | _ => none }
def fnDiskRow : OpenClaim := { program := "ytdbabdggefcpcaa", sum := "0293e4f34c61e9bc2b1cc2eba025d6edae1ee5af76478de3b2cf96690930f869", func := "loop.example/g00221/laws.FnDisk", spec := "fnDisk", plainKeys := false, apart := false }
def FnDiskSaid : Prop := fnDiskRow.holds Try.pinned (OpenSpec.ofChange fnDiskSpec)

/-- ITS FALSE NEIGHBOUR: 'it returns false'. Refute it at one input. -/
def fnDiskWrong : ChangeSpec := { name := "fnDisk", fn := fun _ => fun
  | [d] => { results := [.lit (.bool false)], args := [d] }
  | _ => none }
def FnDiskWrongFalsely : Prop := fnDiskRow.holds Try.pinned (OpenSpec.ofChange fnDiskWrong)

/-- 'laws.FnExactBookRight': WHATEVER THE INPUT: true; the input reads as it did. -/
def fnExactBookRightSpec : ChangeSpec := { name := "fnExactBookRight", fn := fun _ => fun
  | [d] => { results := [.lit (.bool true)], args := [d] }
  | _ => none }
def fnExactBookRightRow : OpenClaim := { program := "ytdbabdggefcpcaa", sum := "0293e4f34c61e9bc2b1cc2eba025d6edae1ee5af76478de3b2cf96690930f869", func := "loop.example/g00221/laws.FnExactBookRight", spec := "fnExactBookRight", inPlace := ["internal/bytealg.abigen_runtime_cmpstring"], plainKeys := false, apart := false }
def FnExactBookRightSaid : Prop := fnExactBookRightRow.holds Try.pinned (OpenSpec.ofChange fnExactBookRightSpec)

/-- ITS FALSE NEIGHBOUR: 'it returns false'. Refute it at one input. -/
def fnExactBookRightWrong : ChangeSpec := { name := "fnExactBookRight", fn := fun _ => fun
  | [d] => { results := [.lit (.bool false)], args := [d] }
  | _ => none }
def FnExactBookRightWrongFalsely : Prop := fnExactBookRightRow.holds Try.pinned (OpenSpec.ofChange fnExactBookRightWrong)

/-- 'laws.FnExactDiskRight': WHATEVER THE INPUT: true; the input reads as it did. -/
def fnExactDiskRightSpec : ChangeSpec := { name := "fnExactDiskRight", fn := fun _ => fun
  | [d] => { results := [.lit (.bool true)], args := [d] }
  | _ => none }
def fnExactDiskRightRow : OpenClaim := { program := "ytdbabdggefcpcaa", sum := "0293e4f34c61e9bc2b1cc2eba025d6edae1ee5af76478de3b2cf96690930f869", func := "loop.example/g00221/laws.FnExactDiskRight", spec := "fnExactDiskRight", plainKeys := false, apart := false }
def FnExactDiskRightSaid : Prop := fnExactDiskRightRow.holds Try.pinned (OpenSpec.ofChange fnExactDiskRightSpec)

/-- ITS FALSE NEIGHBOUR: 'it returns false'. Refute it at one input. -/
def fnExactDiskRightWrong : ChangeSpec := { name := "fnExactDiskRight", fn := fun _ => fun
  | [d] => { results := [.lit (.bool false)], args := [d] }
  | _ => none }
def FnExactDiskRightWrongFalsely : Prop := fnExactDiskRightRow.holds Try.pinned (OpenSpec.ofChange fnExactDiskRightWrong)

/-- 'laws.FnExactDiskText': WHATEVER THE INPUT: true; the input reads as it did. -/
def fnExactDiskTextSpec : ChangeSpec := { name := "fnExactDiskText", fn := fun _ => fun
  | [d] => { results := [.lit (.bool true)], args := [d] }
  | _ => none }
def fnExactDiskTextRow : OpenClaim := { program := "ytdbabdggefcpcaa", sum := "0293e4f34c61e9bc2b1cc2eba025d6edae1ee5af76478de3b2cf96690930f869", func := "loop.example/g00221/laws.FnExactDiskText", spec := "fnExactDiskText", plainKeys := false, apart := false }
def FnExactDiskTextSaid : Prop := fnExactDiskTextRow.holds Try.pinned (OpenSpec.ofChange fnExactDiskTextSpec)

/-- ITS FALSE NEIGHBOUR: 'it returns false'. Refute it at one input. -/
def fnExactDiskTextWrong : ChangeSpec := { name := "fnExactDiskText", fn := fun _ => fun
  | [d] => { results := [.lit (.bool false)], args := [d] }
  | _ => none }
def FnExactDiskTextWrongFalsely : Prop := fnExactDiskTextRow.holds Try.pinned (OpenSpec.ofChange fnExactDiskTextWrong)

/-- 'laws.FnExactDiskWrite': WHATEVER THE INPUT: true; the input reads as it did. -/
def fnExactDiskWriteSpec : ChangeSpec := { name := "fnExactDiskWrite", fn := fun _ => fun
  | [d1, d2] => { results := [.lit (.bool true)], args := [d1, d2] }
  | _ => none }
def fnExactDiskWriteRow : OpenClaim := { program := "ytdbabdggefcpcaa", sum := "0293e4f34c61e9bc2b1cc2eba025d6edae1ee5af76478de3b2cf96690930f869", func := "loop.example/g00221/laws.FnExactDiskWrite", spec := "fnExactDiskWrite", plainKeys := false, apart := false }
def FnExactDiskWriteSaid : Prop := fnExactDiskWriteRow.holds Try.pinned (OpenSpec.ofChange fnExactDiskWriteSpec)

/-- ITS FALSE NEIGHBOUR: 'it returns false'. Refute it at one input. -/
def fnExactDiskWriteWrong : ChangeSpec := { name := "fnExactDiskWrite", fn := fun _ => fun
  | [d1, d2] => { results := [.lit (.bool false)], args := [d1, d2] }
  | _ => none }
def FnExactDiskWriteWrongFalsely : Prop := fnExactDiskWriteRow.holds Try.pinned (OpenSpec.ofChange fnExactDiskWriteWrong)

/-- 'laws.FnExactDiskSync': WHATEVER THE INPUT: true; the input reads as it did. -/
def fnExactDiskSyncSpec : ChangeSpec := { name := "fnExactDiskSync", fn := fun _ => fun
  | [d] => { results := [.lit (.bool true)], args := [d] }
  | _ => none }
def fnExactDiskSyncRow : OpenClaim := { program := "ytdbabdggefcpcaa", sum := "0293e4f34c61e9bc2b1cc2eba025d6edae1ee5af76478de3b2cf96690930f869", func := "loop.example/g00221/laws.FnExactDiskSync", spec := "fnExactDiskSync", plainKeys := false, apart := false }
def FnExactDiskSyncSaid : Prop := fnExactDiskSyncRow.holds Try.pinned (OpenSpec.ofChange fnExactDiskSyncSpec)

/-- ITS FALSE NEIGHBOUR: 'it returns false'. Refute it at one input. -/
def fnExactDiskSyncWrong : ChangeSpec := { name := "fnExactDiskSync", fn := fun _ => fun
  | [d] => { results := [.lit (.bool false)], args := [d] }
  | _ => none }
def FnExactDiskSyncWrongFalsely : Prop := fnExactDiskSyncRow.holds Try.pinned (OpenSpec.ofChange fnExactDiskSyncWrong)

/-- 'laws.FnExactDiskCrash': WHATEVER THE INPUT: true; the input reads as it did. -/
def fnExactDiskCrashSpec : ChangeSpec := { name := "fnExactDiskCrash", fn := fun _ => fun
  | [d1, d2] => { results := [.lit (.bool true)], args := [d1, d2] }
  | _ => none }
def fnExactDiskCrashRow : OpenClaim := { program := "ytdbabdggefcpcaa", sum := "0293e4f34c61e9bc2b1cc2eba025d6edae1ee5af76478de3b2cf96690930f869", func := "loop.example/g00221/laws.FnExactDiskCrash", spec := "fnExactDiskCrash", plainKeys := false, apart := false }
def FnExactDiskCrashSaid : Prop := fnExactDiskCrashRow.holds Try.pinned (OpenSpec.ofChange fnExactDiskCrashSpec)

/-- ITS FALSE NEIGHBOUR: 'it returns false'. Refute it at one input. -/
def fnExactDiskCrashWrong : ChangeSpec := { name := "fnExactDiskCrash", fn := fun _ => fun
  | [d1, d2] => { results := [.lit (.bool false)], args := [d1, d2] }
  | _ => none }
def FnExactDiskCrashWrongFalsely : Prop := fnExactDiskCrashRow.holds Try.pinned (OpenSpec.ofChange fnExactDiskCrashWrong)

/-- 'laws.FnExactDiskCut': WHATEVER THE INPUT: true; the input reads as it did. -/
def fnExactDiskCutSpec : ChangeSpec := { name := "fnExactDiskCut", fn := fun _ => fun
  | [d1, d2] => { results := [.lit (.bool true)], args := [d1, d2] }
  | _ => none }
def fnExactDiskCutRow : OpenClaim := { program := "ytdbabdggefcpcaa", sum := "0293e4f34c61e9bc2b1cc2eba025d6edae1ee5af76478de3b2cf96690930f869", func := "loop.example/g00221/laws.FnExactDiskCut", spec := "fnExactDiskCut", plainKeys := false, apart := false }
def FnExactDiskCutSaid : Prop := fnExactDiskCutRow.holds Try.pinned (OpenSpec.ofChange fnExactDiskCutSpec)

/-- ITS FALSE NEIGHBOUR: 'it returns false'. Refute it at one input. -/
def fnExactDiskCutWrong : ChangeSpec := { name := "fnExactDiskCut", fn := fun _ => fun
  | [d1, d2] => { results := [.lit (.bool false)], args := [d1, d2] }
  | _ => none }
def FnExactDiskCutWrongFalsely : Prop := fnExactDiskCutRow.holds Try.pinned (OpenSpec.ofChange fnExactDiskCutWrong)

/-- 'laws.FnExactRecBytes': WHATEVER THE INPUT: true; the input reads as it did. -/
def fnExactRecBytesSpec : ChangeSpec := { name := "fnExactRecBytes", fn := fun _ => fun
  | [d] => { results := [.lit (.bool true)], args := [d] }
  | _ => none }
def fnExactRecBytesRow : OpenClaim := { program := "ytdbabdggefcpcaa", sum := "0293e4f34c61e9bc2b1cc2eba025d6edae1ee5af76478de3b2cf96690930f869", func := "loop.example/g00221/laws.FnExactRecBytes", spec := "fnExactRecBytes", plainKeys := false, apart := false }
def FnExactRecBytesSaid : Prop := fnExactRecBytesRow.holds Try.pinned (OpenSpec.ofChange fnExactRecBytesSpec)

/-- ITS FALSE NEIGHBOUR: 'it returns false'. Refute it at one input. -/
def fnExactRecBytesWrong : ChangeSpec := { name := "fnExactRecBytes", fn := fun _ => fun
  | [d] => { results := [.lit (.bool false)], args := [d] }
  | _ => none }
def FnExactRecBytesWrongFalsely : Prop := fnExactRecBytesRow.holds Try.pinned (OpenSpec.ofChange fnExactRecBytesWrong)

/- THE SECOND FORM. 'bulk': how many values and letters a reading holds, each counted each time it is reached (what is shared counts as often as it is met; a slice's spare places count too). A statement '..UptoSaid' is the law's where the arguments, and the package variables that the reading takes, are together of bulk at most 1048576: NARROWER than '..Said'. Prove '..Said' where nothing that the law and all that it calls make is longer than what came in: it says more and counts as full. Else prove '..UptoSaid'. A law counts once. -/
mutual
def uptoBulk {H : Type} : DataW H → Nat
  | .lit (.string bytes) => bytes.length + 1
  | .lit _ => 1
  | .nil => 1
  | .ptr d => uptoBulk d + 1
  | .slice elems spare => uptoBulkAll elems + uptoBulkAll spare + 1
  | .agg parts => uptoBulkAll parts + 1
  | .iface _ d => uptoBulk d + 1
  | .map entries => uptoBulkEntries entries + 1
  | .held _ => 1
def uptoBulkAll {H : Type} : List (DataW H) → Nat
  | [] => 0
  | d :: r => uptoBulk d + uptoBulkAll r
def uptoBulkEntries {H : Type} : List (Lit × DataW H) → Nat
  | [] => 0
  | x :: r => uptoBulkEntry x + uptoBulkEntries r
def uptoBulkEntry {H : Type} : Lit × DataW H → Nat
  | (.string bytes, d) => bytes.length + uptoBulk d + 1
  | (_, d) => uptoBulk d + 1
 end
def uptoSmall : (H : Type) → List (DataW H) → Bool := fun _ ds => decide (uptoBulkAll ds ≤ 1048576)
def OpenSpec.upto (s : _root_.Go.ChangeSpec) : _root_.Go.OpenSpec := { _root_.Go.OpenSpec.ofChange s with cond := some uptoSmall }

/-- 'laws.FnDisk', WHERE WHAT IT READS IS OF BULK AT MOST 1048576: true; the input reads as it did. -/
def fnDiskUptoRow : OpenClaim := { program := "ytdbabdggefcpcaa", sum := "0293e4f34c61e9bc2b1cc2eba025d6edae1ee5af76478de3b2cf96690930f869", func := "loop.example/g00221/laws.FnDisk", spec := "fnDisk", plainKeys := false, apart := false, narrowed := true }
def FnDiskUptoSaid : Prop := fnDiskUptoRow.holds Try.pinned (OpenSpec.upto fnDiskSpec)

/-- 'laws.FnExactBookRight', WHERE WHAT IT READS IS OF BULK AT MOST 1048576: true; the input reads as it did. -/
def fnExactBookRightUptoRow : OpenClaim := { program := "ytdbabdggefcpcaa", sum := "0293e4f34c61e9bc2b1cc2eba025d6edae1ee5af76478de3b2cf96690930f869", func := "loop.example/g00221/laws.FnExactBookRight", spec := "fnExactBookRight", inPlace := ["internal/bytealg.abigen_runtime_cmpstring"], plainKeys := false, apart := false, narrowed := true }
def FnExactBookRightUptoSaid : Prop := fnExactBookRightUptoRow.holds Try.pinned (OpenSpec.upto fnExactBookRightSpec)

/-- 'laws.FnExactDiskRight', WHERE WHAT IT READS IS OF BULK AT MOST 1048576: true; the input reads as it did. -/
def fnExactDiskRightUptoRow : OpenClaim := { program := "ytdbabdggefcpcaa", sum := "0293e4f34c61e9bc2b1cc2eba025d6edae1ee5af76478de3b2cf96690930f869", func := "loop.example/g00221/laws.FnExactDiskRight", spec := "fnExactDiskRight", plainKeys := false, apart := false, narrowed := true }
def FnExactDiskRightUptoSaid : Prop := fnExactDiskRightUptoRow.holds Try.pinned (OpenSpec.upto fnExactDiskRightSpec)

/-- 'laws.FnExactDiskText', WHERE WHAT IT READS IS OF BULK AT MOST 1048576: true; the input reads as it did. -/
def fnExactDiskTextUptoRow : OpenClaim := { program := "ytdbabdggefcpcaa", sum := "0293e4f34c61e9bc2b1cc2eba025d6edae1ee5af76478de3b2cf96690930f869", func := "loop.example/g00221/laws.FnExactDiskText", spec := "fnExactDiskText", plainKeys := false, apart := false, narrowed := true }
def FnExactDiskTextUptoSaid : Prop := fnExactDiskTextUptoRow.holds Try.pinned (OpenSpec.upto fnExactDiskTextSpec)

/-- 'laws.FnExactDiskWrite', WHERE WHAT IT READS IS OF BULK AT MOST 1048576: true; the input reads as it did. -/
def fnExactDiskWriteUptoRow : OpenClaim := { program := "ytdbabdggefcpcaa", sum := "0293e4f34c61e9bc2b1cc2eba025d6edae1ee5af76478de3b2cf96690930f869", func := "loop.example/g00221/laws.FnExactDiskWrite", spec := "fnExactDiskWrite", plainKeys := false, apart := false, narrowed := true }
def FnExactDiskWriteUptoSaid : Prop := fnExactDiskWriteUptoRow.holds Try.pinned (OpenSpec.upto fnExactDiskWriteSpec)

/-- 'laws.FnExactDiskSync', WHERE WHAT IT READS IS OF BULK AT MOST 1048576: true; the input reads as it did. -/
def fnExactDiskSyncUptoRow : OpenClaim := { program := "ytdbabdggefcpcaa", sum := "0293e4f34c61e9bc2b1cc2eba025d6edae1ee5af76478de3b2cf96690930f869", func := "loop.example/g00221/laws.FnExactDiskSync", spec := "fnExactDiskSync", plainKeys := false, apart := false, narrowed := true }
def FnExactDiskSyncUptoSaid : Prop := fnExactDiskSyncUptoRow.holds Try.pinned (OpenSpec.upto fnExactDiskSyncSpec)

/-- 'laws.FnExactDiskCrash', WHERE WHAT IT READS IS OF BULK AT MOST 1048576: true; the input reads as it did. -/
def fnExactDiskCrashUptoRow : OpenClaim := { program := "ytdbabdggefcpcaa", sum := "0293e4f34c61e9bc2b1cc2eba025d6edae1ee5af76478de3b2cf96690930f869", func := "loop.example/g00221/laws.FnExactDiskCrash", spec := "fnExactDiskCrash", plainKeys := false, apart := false, narrowed := true }
def FnExactDiskCrashUptoSaid : Prop := fnExactDiskCrashUptoRow.holds Try.pinned (OpenSpec.upto fnExactDiskCrashSpec)

/-- 'laws.FnExactDiskCut', WHERE WHAT IT READS IS OF BULK AT MOST 1048576: true; the input reads as it did. -/
def fnExactDiskCutUptoRow : OpenClaim := { program := "ytdbabdggefcpcaa", sum := "0293e4f34c61e9bc2b1cc2eba025d6edae1ee5af76478de3b2cf96690930f869", func := "loop.example/g00221/laws.FnExactDiskCut", spec := "fnExactDiskCut", plainKeys := false, apart := false, narrowed := true }
def FnExactDiskCutUptoSaid : Prop := fnExactDiskCutUptoRow.holds Try.pinned (OpenSpec.upto fnExactDiskCutSpec)

/-- 'laws.FnExactRecBytes', WHERE WHAT IT READS IS OF BULK AT MOST 1048576: true; the input reads as it did. -/
def fnExactRecBytesUptoRow : OpenClaim := { program := "ytdbabdggefcpcaa", sum := "0293e4f34c61e9bc2b1cc2eba025d6edae1ee5af76478de3b2cf96690930f869", func := "loop.example/g00221/laws.FnExactRecBytes", spec := "fnExactRecBytes", plainKeys := false, apart := false, narrowed := true }
def FnExactRecBytesUptoSaid : Prop := fnExactRecBytesUptoRow.holds Try.pinned (OpenSpec.upto fnExactRecBytesSpec)

end Rows
end Go.Proofs.Ytdbabdggefcpcaa
