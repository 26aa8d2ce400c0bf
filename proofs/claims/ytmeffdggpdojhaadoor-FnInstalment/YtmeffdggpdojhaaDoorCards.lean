/-
  DERIVED. GIVEN WITH THE SEED: THE CARDS: each row of YtmeffdggpdojhaaDoorRows.lean that lists a variable, with what it lists TIED to the program's text (the seventh form; the later family's looks); each row that meets fmt, with fmt's text TOLD by the authors' own Lean function (tested against real Go, not proved from fmt's source: count such statements apart). THE CARD IS WHAT COUNTS. Prove the row's statement (the work); the ties are given (YtmeffdggpdojhaaDoorTie.lean); close each card by the builder's one call (the guide's Derived/Test/ToyasCard.lean, 'card_holds'). Laid BY PROGRAM, IN A SANDBOX (cutbox-door.mjs). By AI agents, Wed Nov 11 2026. No macro, syntax, notation, axiom, sorry.
-/
import Derived.Test.YtmeffdggpdojhaaDoorRows
import GoSem.ClaimSeven
namespace Go.Proofs.YtmeffdggpdojhaaDoor
namespace Rows

/-- THE TIED CARD OF 'laws.FnInstalment'. -/
def fnInstalmentCard : Claim7 := { stood := { row := fnInstalmentRow, standIns := [], harness := (true, "e764168a255507ace8614644a4825883e9be9f3090d8418ba47495b007818cf7"), looks := true }, kinds := [], alts := [], laidByText := true, laidKinds := [.handle, .data], laidTests := true, laidLooks := .later }
def FnInstalmentCardSaid : Prop := Claim7.holds Tryd.pinned (.plain (OpenSpec.ofChange fnInstalmentSpec)) fnInstalmentCard

/-- THE TIED CARD OF 'laws.FnPlan'. -/
def fnPlanCard : Claim7 := { stood := { row := fnPlanRow, standIns := [], harness := (true, "e764168a255507ace8614644a4825883e9be9f3090d8418ba47495b007818cf7"), looks := true }, kinds := [], alts := [], laidByText := true, laidKinds := [.handle, .data], laidTests := true, laidLooks := .later }
def FnPlanCardSaid : Prop := Claim7.holds Tryd.pinned (.plain (OpenSpec.ofChange fnPlanSpec)) fnPlanCard

/-- THE TIED CARD OF 'laws.FnBook'. -/
def fnBookCard : Claim7 := { stood := { row := fnBookRow, standIns := [], harness := (true, "e764168a255507ace8614644a4825883e9be9f3090d8418ba47495b007818cf7"), looks := true }, kinds := [], alts := [], laidByText := true, laidKinds := [.handle], laidTests := true, laidLooks := .later }
def FnBookCardSaid : Prop := Claim7.holds Tryd.pinned (.plain (OpenSpec.ofChange fnBookSpec)) fnBookCard

/-- THE TIED CARD OF 'laws.FnBookOpen'. -/
def fnBookOpenCard : Claim7 := { stood := { row := fnBookOpenRow, standIns := [], harness := (true, "e764168a255507ace8614644a4825883e9be9f3090d8418ba47495b007818cf7"), looks := true }, kinds := [], alts := [], laidByText := true, laidKinds := [.handle], laidTests := true, laidLooks := .later }
def FnBookOpenCardSaid : Prop := Claim7.holds Tryd.pinned (.plain (OpenSpec.ofChange fnBookOpenSpec)) fnBookOpenCard

/-- THE TIED CARD OF 'laws.FnExactBookOpen'. -/
def fnExactBookOpenCard : Claim7 := { stood := { row := fnExactBookOpenRow, standIns := [], harness := (true, "e764168a255507ace8614644a4825883e9be9f3090d8418ba47495b007818cf7"), looks := true }, kinds := [], alts := [], laidByText := true, laidKinds := [.handle], laidTests := true, laidLooks := .later }
def FnExactBookOpenCardSaid : Prop := Claim7.holds Tryd.pinned (.plain (OpenSpec.ofChange fnExactBookOpenSpec)) fnExactBookOpenCard

/-- THE TIED CARD OF 'laws.FnExactBookBalance'. -/
def fnExactBookBalanceCard : Claim7 := { stood := { row := fnExactBookBalanceRow, standIns := [], harness := (true, "e764168a255507ace8614644a4825883e9be9f3090d8418ba47495b007818cf7"), looks := true }, kinds := [], alts := [], laidByText := true, laidKinds := [.handle], laidTests := true, laidLooks := .later }
def FnExactBookBalanceCardSaid : Prop := Claim7.holds Tryd.pinned (.plain (OpenSpec.ofChange fnExactBookBalanceSpec)) fnExactBookBalanceCard

/-- THE SECOND FORM's CARD OF 'laws.FnInstalment'. -/
def fnInstalmentUptoCard : Claim7 := { stood := { row := fnInstalmentUptoRow, standIns := [], harness := (true, "e764168a255507ace8614644a4825883e9be9f3090d8418ba47495b007818cf7"), looks := true }, kinds := [], alts := [], laidByText := true, laidKinds := [.handle, .data], laidTests := true, laidLooks := .later }
def FnInstalmentUptoCardSaid : Prop := Claim7.holds Tryd.pinned (.plain (OpenSpec.upto fnInstalmentSpec)) fnInstalmentUptoCard

/-- THE SECOND FORM's CARD OF 'laws.FnPlan'. -/
def fnPlanUptoCard : Claim7 := { stood := { row := fnPlanUptoRow, standIns := [], harness := (true, "e764168a255507ace8614644a4825883e9be9f3090d8418ba47495b007818cf7"), looks := true }, kinds := [], alts := [], laidByText := true, laidKinds := [.handle, .data], laidTests := true, laidLooks := .later }
def FnPlanUptoCardSaid : Prop := Claim7.holds Tryd.pinned (.plain (OpenSpec.upto fnPlanSpec)) fnPlanUptoCard

/-- THE SECOND FORM's CARD OF 'laws.FnBook'. -/
def fnBookUptoCard : Claim7 := { stood := { row := fnBookUptoRow, standIns := [], harness := (true, "e764168a255507ace8614644a4825883e9be9f3090d8418ba47495b007818cf7"), looks := true }, kinds := [], alts := [], laidByText := true, laidKinds := [.handle], laidTests := true, laidLooks := .later }
def FnBookUptoCardSaid : Prop := Claim7.holds Tryd.pinned (.plain (OpenSpec.upto fnBookSpec)) fnBookUptoCard

/-- THE SECOND FORM's CARD OF 'laws.FnBookOpen'. -/
def fnBookOpenUptoCard : Claim7 := { stood := { row := fnBookOpenUptoRow, standIns := [], harness := (true, "e764168a255507ace8614644a4825883e9be9f3090d8418ba47495b007818cf7"), looks := true }, kinds := [], alts := [], laidByText := true, laidKinds := [.handle], laidTests := true, laidLooks := .later }
def FnBookOpenUptoCardSaid : Prop := Claim7.holds Tryd.pinned (.plain (OpenSpec.upto fnBookOpenSpec)) fnBookOpenUptoCard

/-- THE SECOND FORM's CARD OF 'laws.FnExactBookOpen'. -/
def fnExactBookOpenUptoCard : Claim7 := { stood := { row := fnExactBookOpenUptoRow, standIns := [], harness := (true, "e764168a255507ace8614644a4825883e9be9f3090d8418ba47495b007818cf7"), looks := true }, kinds := [], alts := [], laidByText := true, laidKinds := [.handle], laidTests := true, laidLooks := .later }
def FnExactBookOpenUptoCardSaid : Prop := Claim7.holds Tryd.pinned (.plain (OpenSpec.upto fnExactBookOpenSpec)) fnExactBookOpenUptoCard

/-- THE SECOND FORM's CARD OF 'laws.FnExactBookBalance'. -/
def fnExactBookBalanceUptoCard : Claim7 := { stood := { row := fnExactBookBalanceUptoRow, standIns := [], harness := (true, "e764168a255507ace8614644a4825883e9be9f3090d8418ba47495b007818cf7"), looks := true }, kinds := [], alts := [], laidByText := true, laidKinds := [.handle], laidTests := true, laidLooks := .later }
def FnExactBookBalanceUptoCardSaid : Prop := Claim7.holds Tryd.pinned (.plain (OpenSpec.upto fnExactBookBalanceSpec)) fnExactBookBalanceUptoCard
end Rows
end Go.Proofs.YtmeffdggpdojhaaDoor
