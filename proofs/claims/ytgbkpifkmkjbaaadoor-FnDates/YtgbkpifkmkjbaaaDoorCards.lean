/-
  DERIVED. GIVEN WITH THE SEED: THE CARDS: each row of YtgbkpifkmkjbaaaDoorRows.lean that lists a variable, with what it lists TIED to the program's text (the seventh form; the later family's looks); each row that meets fmt, with fmt's text TOLD by the authors' own Lean function (tested against real Go, not proved from fmt's source: count such statements apart). THE CARD IS WHAT COUNTS. Prove the row's statement (the work); the ties are given (YtgbkpifkmkjbaaaDoorTie.lean); close each card by the builder's one call (the guide's Derived/Test/ToyasCard.lean, 'card_holds'). Laid BY PROGRAM, IN A SANDBOX (cutbox-door.mjs). By AI agents, Wed Nov 11 2026. No macro, syntax, notation, axiom, sorry.
-/
import Derived.Test.YtgbkpifkmkjbaaaDoorRows
import GoSem.ClaimSeven
namespace Go.Proofs.YtgbkpifkmkjbaaaDoor
namespace Rows

/-- THE TIED CARD OF 'laws.FnMoney'. -/
def fnMoneyCard : Claim7 := { stood := { row := fnMoneyRow, standIns := [], harness := (true, "23a674e3690c91ee7c5647df5ac91581f7d7f72cc6cf966d6673e7b9f02c1a94"), looks := true }, kinds := [], alts := [], laidByText := true, laidKinds := [.data, .data, .data, .handle], laidTests := true, laidLooks := .later }
def FnMoneyCardSaid : Prop := Claim7.holds Tryd.pinned (.plain (OpenSpec.ofChange fnMoneySpec)) fnMoneyCard

/-- THE TIED CARD OF 'laws.FnMulDiv'. -/
def fnMulDivCard : Claim7 := { stood := { row := fnMulDivRow, standIns := [], harness := (true, "23a674e3690c91ee7c5647df5ac91581f7d7f72cc6cf966d6673e7b9f02c1a94"), looks := true }, kinds := [], alts := [], laidByText := true, laidKinds := [.handle], laidTests := true, laidLooks := .later }
def FnMulDivCardSaid : Prop := Claim7.holds Tryd.pinned (.plain (OpenSpec.ofChange fnMulDivSpec)) fnMulDivCard

/-- THE TIED CARD OF 'laws.FnDates'. -/
def fnDatesCard : Claim7 := { stood := { row := fnDatesRow, standIns := [], harness := (true, "23a674e3690c91ee7c5647df5ac91581f7d7f72cc6cf966d6673e7b9f02c1a94"), looks := true }, kinds := [], alts := [], laidByText := true, laidKinds := [.data, .data, .data, .handle, .data], laidTests := true, laidLooks := .later }
def FnDatesCardSaid : Prop := Claim7.holds Tryd.pinned (.plain (OpenSpec.ofChange fnDatesSpec)) fnDatesCard

/-- THE TIED CARD OF 'laws.FnMonths'. -/
def fnMonthsCard : Claim7 := { stood := { row := fnMonthsRow, standIns := [], harness := (true, "23a674e3690c91ee7c5647df5ac91581f7d7f72cc6cf966d6673e7b9f02c1a94"), looks := true }, kinds := [], alts := [], laidByText := true, laidKinds := [.handle, .data], laidTests := true, laidLooks := .later }
def FnMonthsCardSaid : Prop := Claim7.holds Tryd.pinned (.plain (OpenSpec.ofChange fnMonthsSpec)) fnMonthsCard

/-- THE TIED CARD OF 'laws.FnInterest'. -/
def fnInterestCard : Claim7 := { stood := { row := fnInterestRow, standIns := [], harness := (true, "23a674e3690c91ee7c5647df5ac91581f7d7f72cc6cf966d6673e7b9f02c1a94"), looks := true }, kinds := [], alts := [], laidByText := true, laidKinds := [.handle, .data], laidTests := true, laidLooks := .later }
def FnInterestCardSaid : Prop := Claim7.holds Tryd.pinned (.plain (OpenSpec.ofChange fnInterestSpec)) fnInterestCard

/-- THE TIED CARD OF 'laws.FnExactMoneyAdd'. -/
def fnExactMoneyAddCard : Claim7 := { stood := { row := fnExactMoneyAddRow, standIns := [], harness := (true, "23a674e3690c91ee7c5647df5ac91581f7d7f72cc6cf966d6673e7b9f02c1a94"), looks := true }, kinds := [], alts := [], laidByText := true, laidKinds := [.handle], laidTests := true, laidLooks := .later }
def FnExactMoneyAddCardSaid : Prop := Claim7.holds Tryd.pinned (.plain (OpenSpec.ofChange fnExactMoneyAddSpec)) fnExactMoneyAddCard

/-- THE TIED CARD OF 'laws.FnExactMoneyTimes'. -/
def fnExactMoneyTimesCard : Claim7 := { stood := { row := fnExactMoneyTimesRow, standIns := [], harness := (true, "23a674e3690c91ee7c5647df5ac91581f7d7f72cc6cf966d6673e7b9f02c1a94"), looks := true }, kinds := [], alts := [], laidByText := true, laidKinds := [.handle], laidTests := true, laidLooks := .later }
def FnExactMoneyTimesCardSaid : Prop := Claim7.holds Tryd.pinned (.plain (OpenSpec.ofChange fnExactMoneyTimesSpec)) fnExactMoneyTimesCard

/-- THE TIED CARD OF 'laws.FnExactMulDiv'. -/
def fnExactMulDivCard : Claim7 := { stood := { row := fnExactMulDivRow, standIns := [], harness := (true, "23a674e3690c91ee7c5647df5ac91581f7d7f72cc6cf966d6673e7b9f02c1a94"), looks := true }, kinds := [], alts := [], laidByText := true, laidKinds := [.handle], laidTests := true, laidLooks := .later }
def FnExactMulDivCardSaid : Prop := Claim7.holds Tryd.pinned (.plain (OpenSpec.ofChange fnExactMulDivSpec)) fnExactMulDivCard

/-- THE TIED CARD OF 'laws.FnExactMoneyText'. -/
def fnExactMoneyTextCard : Claim7 := { stood := { row := fnExactMoneyTextRow, standIns := [], harness := (true, "23a674e3690c91ee7c5647df5ac91581f7d7f72cc6cf966d6673e7b9f02c1a94"), looks := true }, kinds := [], alts := [], laidByText := true, laidKinds := [.data, .data, .data], laidTests := true, laidLooks := .later }
def FnExactMoneyTextCardSaid : Prop := Claim7.holds Tryd.pinned (.plain (OpenSpec.ofChange fnExactMoneyTextSpec)) fnExactMoneyTextCard

/-- THE TIED CARD OF 'laws.FnExactMoneyRead'. -/
def fnExactMoneyReadCard : Claim7 := { stood := { row := fnExactMoneyReadRow, standIns := [], harness := (true, "23a674e3690c91ee7c5647df5ac91581f7d7f72cc6cf966d6673e7b9f02c1a94"), looks := true }, kinds := [], alts := [], laidByText := true, laidKinds := [.data, .data, .data, .handle], laidTests := true, laidLooks := .later }
def FnExactMoneyReadCardSaid : Prop := Claim7.holds Tryd.pinned (.plain (OpenSpec.ofChange fnExactMoneyReadSpec)) fnExactMoneyReadCard

/-- THE TIED CARD OF 'laws.FnExactRateText'. -/
def fnExactRateTextCard : Claim7 := { stood := { row := fnExactRateTextRow, standIns := [], harness := (true, "23a674e3690c91ee7c5647df5ac91581f7d7f72cc6cf966d6673e7b9f02c1a94"), looks := true }, kinds := [], alts := [], laidByText := true, laidKinds := [.data, .data, .data], laidTests := true, laidLooks := .later }
def FnExactRateTextCardSaid : Prop := Claim7.holds Tryd.pinned (.plain (OpenSpec.ofChange fnExactRateTextSpec)) fnExactRateTextCard

/-- THE SECOND FORM's CARD OF 'laws.FnMoney'. -/
def fnMoneyUptoCard : Claim7 := { stood := { row := fnMoneyUptoRow, standIns := [], harness := (true, "23a674e3690c91ee7c5647df5ac91581f7d7f72cc6cf966d6673e7b9f02c1a94"), looks := true }, kinds := [], alts := [], laidByText := true, laidKinds := [.data, .data, .data, .handle], laidTests := true, laidLooks := .later }
def FnMoneyUptoCardSaid : Prop := Claim7.holds Tryd.pinned (.plain (OpenSpec.upto fnMoneySpec)) fnMoneyUptoCard

/-- THE SECOND FORM's CARD OF 'laws.FnMulDiv'. -/
def fnMulDivUptoCard : Claim7 := { stood := { row := fnMulDivUptoRow, standIns := [], harness := (true, "23a674e3690c91ee7c5647df5ac91581f7d7f72cc6cf966d6673e7b9f02c1a94"), looks := true }, kinds := [], alts := [], laidByText := true, laidKinds := [.handle], laidTests := true, laidLooks := .later }
def FnMulDivUptoCardSaid : Prop := Claim7.holds Tryd.pinned (.plain (OpenSpec.upto fnMulDivSpec)) fnMulDivUptoCard

/-- THE SECOND FORM's CARD OF 'laws.FnDates'. -/
def fnDatesUptoCard : Claim7 := { stood := { row := fnDatesUptoRow, standIns := [], harness := (true, "23a674e3690c91ee7c5647df5ac91581f7d7f72cc6cf966d6673e7b9f02c1a94"), looks := true }, kinds := [], alts := [], laidByText := true, laidKinds := [.data, .data, .data, .handle, .data], laidTests := true, laidLooks := .later }
def FnDatesUptoCardSaid : Prop := Claim7.holds Tryd.pinned (.plain (OpenSpec.upto fnDatesSpec)) fnDatesUptoCard

/-- THE SECOND FORM's CARD OF 'laws.FnMonths'. -/
def fnMonthsUptoCard : Claim7 := { stood := { row := fnMonthsUptoRow, standIns := [], harness := (true, "23a674e3690c91ee7c5647df5ac91581f7d7f72cc6cf966d6673e7b9f02c1a94"), looks := true }, kinds := [], alts := [], laidByText := true, laidKinds := [.handle, .data], laidTests := true, laidLooks := .later }
def FnMonthsUptoCardSaid : Prop := Claim7.holds Tryd.pinned (.plain (OpenSpec.upto fnMonthsSpec)) fnMonthsUptoCard

/-- THE SECOND FORM's CARD OF 'laws.FnInterest'. -/
def fnInterestUptoCard : Claim7 := { stood := { row := fnInterestUptoRow, standIns := [], harness := (true, "23a674e3690c91ee7c5647df5ac91581f7d7f72cc6cf966d6673e7b9f02c1a94"), looks := true }, kinds := [], alts := [], laidByText := true, laidKinds := [.handle, .data], laidTests := true, laidLooks := .later }
def FnInterestUptoCardSaid : Prop := Claim7.holds Tryd.pinned (.plain (OpenSpec.upto fnInterestSpec)) fnInterestUptoCard

/-- THE SECOND FORM's CARD OF 'laws.FnExactMoneyAdd'. -/
def fnExactMoneyAddUptoCard : Claim7 := { stood := { row := fnExactMoneyAddUptoRow, standIns := [], harness := (true, "23a674e3690c91ee7c5647df5ac91581f7d7f72cc6cf966d6673e7b9f02c1a94"), looks := true }, kinds := [], alts := [], laidByText := true, laidKinds := [.handle], laidTests := true, laidLooks := .later }
def FnExactMoneyAddUptoCardSaid : Prop := Claim7.holds Tryd.pinned (.plain (OpenSpec.upto fnExactMoneyAddSpec)) fnExactMoneyAddUptoCard

/-- THE SECOND FORM's CARD OF 'laws.FnExactMoneyTimes'. -/
def fnExactMoneyTimesUptoCard : Claim7 := { stood := { row := fnExactMoneyTimesUptoRow, standIns := [], harness := (true, "23a674e3690c91ee7c5647df5ac91581f7d7f72cc6cf966d6673e7b9f02c1a94"), looks := true }, kinds := [], alts := [], laidByText := true, laidKinds := [.handle], laidTests := true, laidLooks := .later }
def FnExactMoneyTimesUptoCardSaid : Prop := Claim7.holds Tryd.pinned (.plain (OpenSpec.upto fnExactMoneyTimesSpec)) fnExactMoneyTimesUptoCard

/-- THE SECOND FORM's CARD OF 'laws.FnExactMulDiv'. -/
def fnExactMulDivUptoCard : Claim7 := { stood := { row := fnExactMulDivUptoRow, standIns := [], harness := (true, "23a674e3690c91ee7c5647df5ac91581f7d7f72cc6cf966d6673e7b9f02c1a94"), looks := true }, kinds := [], alts := [], laidByText := true, laidKinds := [.handle], laidTests := true, laidLooks := .later }
def FnExactMulDivUptoCardSaid : Prop := Claim7.holds Tryd.pinned (.plain (OpenSpec.upto fnExactMulDivSpec)) fnExactMulDivUptoCard

/-- THE SECOND FORM's CARD OF 'laws.FnExactMoneyText'. -/
def fnExactMoneyTextUptoCard : Claim7 := { stood := { row := fnExactMoneyTextUptoRow, standIns := [], harness := (true, "23a674e3690c91ee7c5647df5ac91581f7d7f72cc6cf966d6673e7b9f02c1a94"), looks := true }, kinds := [], alts := [], laidByText := true, laidKinds := [.data, .data, .data], laidTests := true, laidLooks := .later }
def FnExactMoneyTextUptoCardSaid : Prop := Claim7.holds Tryd.pinned (.plain (OpenSpec.upto fnExactMoneyTextSpec)) fnExactMoneyTextUptoCard

/-- THE SECOND FORM's CARD OF 'laws.FnExactMoneyRead'. -/
def fnExactMoneyReadUptoCard : Claim7 := { stood := { row := fnExactMoneyReadUptoRow, standIns := [], harness := (true, "23a674e3690c91ee7c5647df5ac91581f7d7f72cc6cf966d6673e7b9f02c1a94"), looks := true }, kinds := [], alts := [], laidByText := true, laidKinds := [.data, .data, .data, .handle], laidTests := true, laidLooks := .later }
def FnExactMoneyReadUptoCardSaid : Prop := Claim7.holds Tryd.pinned (.plain (OpenSpec.upto fnExactMoneyReadSpec)) fnExactMoneyReadUptoCard

/-- THE SECOND FORM's CARD OF 'laws.FnExactRateText'. -/
def fnExactRateTextUptoCard : Claim7 := { stood := { row := fnExactRateTextUptoRow, standIns := [], harness := (true, "23a674e3690c91ee7c5647df5ac91581f7d7f72cc6cf966d6673e7b9f02c1a94"), looks := true }, kinds := [], alts := [], laidByText := true, laidKinds := [.data, .data, .data], laidTests := true, laidLooks := .later }
def FnExactRateTextUptoCardSaid : Prop := Claim7.holds Tryd.pinned (.plain (OpenSpec.upto fnExactRateTextSpec)) fnExactRateTextUptoCard
end Rows
end Go.Proofs.YtgbkpifkmkjbaaaDoor
