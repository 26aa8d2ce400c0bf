/-
  DERIVED. GIVEN WITH THE SEED: THE CARDS: each row of YtnkklkbokpeanaaDoorRows.lean that lists a variable, with what it lists TIED to the program's text (the seventh form; the later family's looks); each row that meets fmt, with fmt's text TOLD by the authors' own Lean function (tested against real Go, not proved from fmt's source: count such statements apart). THE CARD IS WHAT COUNTS. Prove the row's statement (the work); the ties are given (YtnkklkbokpeanaaDoorTie.lean); close each card by the builder's one call (the guide's Derived/Test/ToyasCard.lean, 'card_holds'). Laid BY PROGRAM, IN A SANDBOX (cutbox-door.mjs). By AI agents, Wed Nov 11 2026. No macro, syntax, notation, axiom, sorry.
-/
import Derived.Test.YtnkklkbokpeanaaDoorRows
import GoSem.ClaimSeven
namespace Go.Proofs.YtnkklkbokpeanaaDoor
namespace Rows

/-- THE TIED CARD OF 'laws.FnOps'. -/
def fnOpsCard : Claim7 := { stood := { row := fnOpsRow, standIns := [], harness := (true, "8b8a0ccf8255b651dcdca73fa7f5c9765691e2ac54bfc59dff0617b69ba80ce4"), looks := true }, kinds := [], alts := [], laidByText := true, laidKinds := [.handle], laidTests := true, laidLooks := .later }
def FnOpsCardSaid : Prop := Claim7.holds Tryd.pinned (.plain (OpenSpec.ofChange fnOpsSpec)) fnOpsCard

/-- THE TIED CARD OF 'laws.FnExactEnvRight'. -/
def fnExactEnvRightCard : Claim7 := { stood := { row := fnExactEnvRightRow, standIns := [], harness := (true, "8b8a0ccf8255b651dcdca73fa7f5c9765691e2ac54bfc59dff0617b69ba80ce4"), looks := true }, kinds := [], alts := [], laidByText := true, laidKinds := [.listed, .data], laidTests := true, laidLooks := .later }
def FnExactEnvRightCardSaid : Prop := Claim7.holds Tryd.pinned (.plain (OpenSpec.ofChange fnExactEnvRightSpec)) fnExactEnvRightCard

/-- THE TIED CARD OF 'laws.FnExactCallValue'. -/
def fnExactCallValueCard : Claim7 := { stood := { row := fnExactCallValueRow, standIns := [], harness := (true, "8b8a0ccf8255b651dcdca73fa7f5c9765691e2ac54bfc59dff0617b69ba80ce4"), looks := true }, kinds := [], alts := [], laidByText := true, laidKinds := [.handle, .data], laidTests := true, laidLooks := .later }
def FnExactCallValueCardSaid : Prop := Claim7.holds Tryd.pinned (.plain (OpenSpec.ofChange fnExactCallValueSpec)) fnExactCallValueCard

/-- THE TIED CARD OF 'laws.FnExactOpValue'. -/
def fnExactOpValueCard : Claim7 := { stood := { row := fnExactOpValueRow, standIns := [], harness := (true, "8b8a0ccf8255b651dcdca73fa7f5c9765691e2ac54bfc59dff0617b69ba80ce4"), looks := true }, kinds := [], alts := [], laidByText := true, laidKinds := [.handle], laidTests := true, laidLooks := .later }
def FnExactOpValueCardSaid : Prop := Claim7.holds Tryd.pinned (.plain (OpenSpec.ofChange fnExactOpValueSpec)) fnExactOpValueCard

/-- THE SECOND FORM's CARD OF 'laws.FnOps'. -/
def fnOpsUptoCard : Claim7 := { stood := { row := fnOpsUptoRow, standIns := [], harness := (true, "8b8a0ccf8255b651dcdca73fa7f5c9765691e2ac54bfc59dff0617b69ba80ce4"), looks := true }, kinds := [], alts := [], laidByText := true, laidKinds := [.handle], laidTests := true, laidLooks := .later }
def FnOpsUptoCardSaid : Prop := Claim7.holds Tryd.pinned (.plain (OpenSpec.upto fnOpsSpec)) fnOpsUptoCard

/-- THE SECOND FORM's CARD OF 'laws.FnExactEnvRight'. -/
def fnExactEnvRightUptoCard : Claim7 := { stood := { row := fnExactEnvRightUptoRow, standIns := [], harness := (true, "8b8a0ccf8255b651dcdca73fa7f5c9765691e2ac54bfc59dff0617b69ba80ce4"), looks := true }, kinds := [], alts := [], laidByText := true, laidKinds := [.listed, .data], laidTests := true, laidLooks := .later }
def FnExactEnvRightUptoCardSaid : Prop := Claim7.holds Tryd.pinned (.plain (OpenSpec.upto fnExactEnvRightSpec)) fnExactEnvRightUptoCard

/-- THE SECOND FORM's CARD OF 'laws.FnExactCallValue'. -/
def fnExactCallValueUptoCard : Claim7 := { stood := { row := fnExactCallValueUptoRow, standIns := [], harness := (true, "8b8a0ccf8255b651dcdca73fa7f5c9765691e2ac54bfc59dff0617b69ba80ce4"), looks := true }, kinds := [], alts := [], laidByText := true, laidKinds := [.handle, .data], laidTests := true, laidLooks := .later }
def FnExactCallValueUptoCardSaid : Prop := Claim7.holds Tryd.pinned (.plain (OpenSpec.upto fnExactCallValueSpec)) fnExactCallValueUptoCard

/-- THE SECOND FORM's CARD OF 'laws.FnExactOpValue'. -/
def fnExactOpValueUptoCard : Claim7 := { stood := { row := fnExactOpValueUptoRow, standIns := [], harness := (true, "8b8a0ccf8255b651dcdca73fa7f5c9765691e2ac54bfc59dff0617b69ba80ce4"), looks := true }, kinds := [], alts := [], laidByText := true, laidKinds := [.handle], laidTests := true, laidLooks := .later }
def FnExactOpValueUptoCardSaid : Prop := Claim7.holds Tryd.pinned (.plain (OpenSpec.upto fnExactOpValueSpec)) fnExactOpValueUptoCard
end Rows
end Go.Proofs.YtnkklkbokpeanaaDoor
