/-
  DERIVED. GIVEN WITH THE SEED: THE CARDS: each row of YtgbkpifkmkjbaabDoorRows.lean that lists a variable, with what it lists TIED to the program's text (the seventh form; the later family's looks); each row that meets fmt, with fmt's text TOLD by the authors' own Lean function (tested against real Go, not proved from fmt's source: count such statements apart). THE CARD IS WHAT COUNTS. Prove the row's statement (the work); the ties are given (YtgbkpifkmkjbaabDoorTie.lean); close each card by the builder's one call (the guide's Derived/Test/ToyasCard.lean, 'card_holds'). Laid BY PROGRAM, IN A SANDBOX (cutbox-door.mjs). By AI agents, Wed Nov 11 2026. No macro, syntax, notation, axiom, sorry.
-/
import Derived.Test.YtgbkpifkmkjbaabDoorRows
import GoSem.ClaimSeven
namespace Go.Proofs.YtgbkpifkmkjbaabDoor
namespace Rows

/-- THE TIED CARD OF 'laws.FnExactRateRead'. -/
def fnExactRateReadCard : Claim7 := { stood := { row := fnExactRateReadRow, standIns := [], harness := (true, "1612a0baf497f9e6befd71de100ea992398ad89d3e4ee94a9bc0049eebf22553"), looks := true }, kinds := [], alts := [], laidByText := true, laidKinds := [.data, .data, .data, .handle], laidTests := true, laidLooks := .later }
def FnExactRateReadCardSaid : Prop := Claim7.holds Tryd.pinned (.plain (OpenSpec.ofChange fnExactRateReadSpec)) fnExactRateReadCard

/-- THE TIED CARD OF 'laws.FnExactDayOf'. -/
def fnExactDayOfCard : Claim7 := { stood := { row := fnExactDayOfRow, standIns := [], harness := (true, "1612a0baf497f9e6befd71de100ea992398ad89d3e4ee94a9bc0049eebf22553"), looks := true }, kinds := [], alts := [], laidByText := true, laidKinds := [.handle, .data], laidTests := true, laidLooks := .later }
def FnExactDayOfCardSaid : Prop := Claim7.holds Tryd.pinned (.plain (OpenSpec.ofChange fnExactDayOfSpec)) fnExactDayOfCard

/-- THE TIED CARD OF 'laws.FnExactDateOf'. -/
def fnExactDateOfCard : Claim7 := { stood := { row := fnExactDateOfRow, standIns := [], harness := (true, "1612a0baf497f9e6befd71de100ea992398ad89d3e4ee94a9bc0049eebf22553"), looks := true }, kinds := [], alts := [], laidByText := true, laidKinds := [.data], laidTests := true, laidLooks := .later }
def FnExactDateOfCardSaid : Prop := Claim7.holds Tryd.pinned (.plain (OpenSpec.ofChange fnExactDateOfSpec)) fnExactDateOfCard

/-- THE TIED CARD OF 'laws.FnExactDayAdd'. -/
def fnExactDayAddCard : Claim7 := { stood := { row := fnExactDayAddRow, standIns := [], harness := (true, "1612a0baf497f9e6befd71de100ea992398ad89d3e4ee94a9bc0049eebf22553"), looks := true }, kinds := [], alts := [], laidByText := true, laidKinds := [.handle, .data], laidTests := true, laidLooks := .later }
def FnExactDayAddCardSaid : Prop := Claim7.holds Tryd.pinned (.plain (OpenSpec.ofChange fnExactDayAddSpec)) fnExactDayAddCard

/-- THE TIED CARD OF 'laws.FnExactSpan'. -/
def fnExactSpanCard : Claim7 := { stood := { row := fnExactSpanRow, standIns := [], harness := (true, "1612a0baf497f9e6befd71de100ea992398ad89d3e4ee94a9bc0049eebf22553"), looks := true }, kinds := [], alts := [], laidByText := true, laidKinds := [.handle, .data], laidTests := true, laidLooks := .later }
def FnExactSpanCardSaid : Prop := Claim7.holds Tryd.pinned (.plain (OpenSpec.ofChange fnExactSpanSpec)) fnExactSpanCard

/-- THE TIED CARD OF 'laws.FnExactInterest'. -/
def fnExactInterestCard : Claim7 := { stood := { row := fnExactInterestRow, standIns := [], harness := (true, "1612a0baf497f9e6befd71de100ea992398ad89d3e4ee94a9bc0049eebf22553"), looks := true }, kinds := [], alts := [], laidByText := true, laidKinds := [.handle, .data], laidTests := true, laidLooks := .later }
def FnExactInterestCardSaid : Prop := Claim7.holds Tryd.pinned (.plain (OpenSpec.ofChange fnExactInterestSpec)) fnExactInterestCard

/-- THE TIED CARD OF 'laws.FnExactDateText'. -/
def fnExactDateTextCard : Claim7 := { stood := { row := fnExactDateTextRow, standIns := [], harness := (true, "1612a0baf497f9e6befd71de100ea992398ad89d3e4ee94a9bc0049eebf22553"), looks := true }, kinds := [], alts := [], laidByText := true, laidKinds := [.data, .data, .data, .data], laidTests := true, laidLooks := .later }
def FnExactDateTextCardSaid : Prop := Claim7.holds Tryd.pinned (.plain (OpenSpec.ofChange fnExactDateTextSpec)) fnExactDateTextCard

/-- THE TIED CARD OF 'laws.FnExactDateRead'. -/
def fnExactDateReadCard : Claim7 := { stood := { row := fnExactDateReadRow, standIns := [], harness := (true, "1612a0baf497f9e6befd71de100ea992398ad89d3e4ee94a9bc0049eebf22553"), looks := true }, kinds := [], alts := [], laidByText := true, laidKinds := [.data, .data, .data, .handle, .data], laidTests := true, laidLooks := .later }
def FnExactDateReadCardSaid : Prop := Claim7.holds Tryd.pinned (.plain (OpenSpec.ofChange fnExactDateReadSpec)) fnExactDateReadCard

/-- THE SECOND FORM's CARD OF 'laws.FnExactRateRead'. -/
def fnExactRateReadUptoCard : Claim7 := { stood := { row := fnExactRateReadUptoRow, standIns := [], harness := (true, "1612a0baf497f9e6befd71de100ea992398ad89d3e4ee94a9bc0049eebf22553"), looks := true }, kinds := [], alts := [], laidByText := true, laidKinds := [.data, .data, .data, .handle], laidTests := true, laidLooks := .later }
def FnExactRateReadUptoCardSaid : Prop := Claim7.holds Tryd.pinned (.plain (OpenSpec.upto fnExactRateReadSpec)) fnExactRateReadUptoCard

/-- THE SECOND FORM's CARD OF 'laws.FnExactDayOf'. -/
def fnExactDayOfUptoCard : Claim7 := { stood := { row := fnExactDayOfUptoRow, standIns := [], harness := (true, "1612a0baf497f9e6befd71de100ea992398ad89d3e4ee94a9bc0049eebf22553"), looks := true }, kinds := [], alts := [], laidByText := true, laidKinds := [.handle, .data], laidTests := true, laidLooks := .later }
def FnExactDayOfUptoCardSaid : Prop := Claim7.holds Tryd.pinned (.plain (OpenSpec.upto fnExactDayOfSpec)) fnExactDayOfUptoCard

/-- THE SECOND FORM's CARD OF 'laws.FnExactDateOf'. -/
def fnExactDateOfUptoCard : Claim7 := { stood := { row := fnExactDateOfUptoRow, standIns := [], harness := (true, "1612a0baf497f9e6befd71de100ea992398ad89d3e4ee94a9bc0049eebf22553"), looks := true }, kinds := [], alts := [], laidByText := true, laidKinds := [.data], laidTests := true, laidLooks := .later }
def FnExactDateOfUptoCardSaid : Prop := Claim7.holds Tryd.pinned (.plain (OpenSpec.upto fnExactDateOfSpec)) fnExactDateOfUptoCard

/-- THE SECOND FORM's CARD OF 'laws.FnExactDayAdd'. -/
def fnExactDayAddUptoCard : Claim7 := { stood := { row := fnExactDayAddUptoRow, standIns := [], harness := (true, "1612a0baf497f9e6befd71de100ea992398ad89d3e4ee94a9bc0049eebf22553"), looks := true }, kinds := [], alts := [], laidByText := true, laidKinds := [.handle, .data], laidTests := true, laidLooks := .later }
def FnExactDayAddUptoCardSaid : Prop := Claim7.holds Tryd.pinned (.plain (OpenSpec.upto fnExactDayAddSpec)) fnExactDayAddUptoCard

/-- THE SECOND FORM's CARD OF 'laws.FnExactSpan'. -/
def fnExactSpanUptoCard : Claim7 := { stood := { row := fnExactSpanUptoRow, standIns := [], harness := (true, "1612a0baf497f9e6befd71de100ea992398ad89d3e4ee94a9bc0049eebf22553"), looks := true }, kinds := [], alts := [], laidByText := true, laidKinds := [.handle, .data], laidTests := true, laidLooks := .later }
def FnExactSpanUptoCardSaid : Prop := Claim7.holds Tryd.pinned (.plain (OpenSpec.upto fnExactSpanSpec)) fnExactSpanUptoCard

/-- THE SECOND FORM's CARD OF 'laws.FnExactInterest'. -/
def fnExactInterestUptoCard : Claim7 := { stood := { row := fnExactInterestUptoRow, standIns := [], harness := (true, "1612a0baf497f9e6befd71de100ea992398ad89d3e4ee94a9bc0049eebf22553"), looks := true }, kinds := [], alts := [], laidByText := true, laidKinds := [.handle, .data], laidTests := true, laidLooks := .later }
def FnExactInterestUptoCardSaid : Prop := Claim7.holds Tryd.pinned (.plain (OpenSpec.upto fnExactInterestSpec)) fnExactInterestUptoCard

/-- THE SECOND FORM's CARD OF 'laws.FnExactDateText'. -/
def fnExactDateTextUptoCard : Claim7 := { stood := { row := fnExactDateTextUptoRow, standIns := [], harness := (true, "1612a0baf497f9e6befd71de100ea992398ad89d3e4ee94a9bc0049eebf22553"), looks := true }, kinds := [], alts := [], laidByText := true, laidKinds := [.data, .data, .data, .data], laidTests := true, laidLooks := .later }
def FnExactDateTextUptoCardSaid : Prop := Claim7.holds Tryd.pinned (.plain (OpenSpec.upto fnExactDateTextSpec)) fnExactDateTextUptoCard

/-- THE SECOND FORM's CARD OF 'laws.FnExactDateRead'. -/
def fnExactDateReadUptoCard : Claim7 := { stood := { row := fnExactDateReadUptoRow, standIns := [], harness := (true, "1612a0baf497f9e6befd71de100ea992398ad89d3e4ee94a9bc0049eebf22553"), looks := true }, kinds := [], alts := [], laidByText := true, laidKinds := [.data, .data, .data, .handle, .data], laidTests := true, laidLooks := .later }
def FnExactDateReadUptoCardSaid : Prop := Claim7.holds Tryd.pinned (.plain (OpenSpec.upto fnExactDateReadSpec)) fnExactDateReadUptoCard
end Rows
end Go.Proofs.YtgbkpifkmkjbaabDoor
