/-
  DERIVED. GIVEN WITH THE SEED: THE CARDS: each row of YtgkfjopbcphnhaaDoorRows.lean that lists a variable, with what it lists TIED to the program's text (the seventh form; the later family's looks); each row that meets fmt, with fmt's text TOLD by the authors' own Lean function (tested against real Go, not proved from fmt's source: count such statements apart). THE CARD IS WHAT COUNTS. Prove the row's statement (the work); the ties are given (YtgkfjopbcphnhaaDoorTie.lean); close each card by the builder's one call (the guide's Derived/Test/ToyasCard.lean, 'card_holds'). Laid BY PROGRAM, IN A SANDBOX (cutbox-door.mjs). By AI agents, Wed Nov 11 2026. No macro, syntax, notation, axiom, sorry.
-/
import Derived.Test.YtgkfjopbcphnhaaDoorRows
import GoSem.ClaimSeven
namespace Go.Proofs.YtgkfjopbcphnhaaDoor
namespace Rows

/-- THE TIED CARD OF 'laws.FnInterest'. -/
def fnInterestCard : Claim7 := { stood := { row := fnInterestRow, standIns := [], harness := (true, "3b8b2605a79f4ddff190780b336cf6a7e788b83dc3e910198744922fade89dfa"), looks := true }, kinds := [], alts := [], laidByText := true, laidKinds := [.handle, .data], laidTests := true, laidLooks := .later }
def FnInterestCardSaid : Prop := Claim7.holds Tryd.pinned (.plain (OpenSpec.ofChange fnInterestSpec)) fnInterestCard

/-- THE TIED CARD OF 'laws.FnInstalment'. -/
def fnInstalmentCard : Claim7 := { stood := { row := fnInstalmentRow, standIns := [], harness := (true, "3b8b2605a79f4ddff190780b336cf6a7e788b83dc3e910198744922fade89dfa"), looks := true }, kinds := [], alts := [], laidByText := true, laidKinds := [.handle, .data], laidTests := true, laidLooks := .later }
def FnInstalmentCardSaid : Prop := Claim7.holds Tryd.pinned (.plain (OpenSpec.ofChange fnInstalmentSpec)) fnInstalmentCard

/-- THE TIED CARD OF 'laws.FnPlan'. -/
def fnPlanCard : Claim7 := { stood := { row := fnPlanRow, standIns := [], harness := (true, "3b8b2605a79f4ddff190780b336cf6a7e788b83dc3e910198744922fade89dfa"), looks := true }, kinds := [], alts := [], laidByText := true, laidKinds := [.handle, .data], laidTests := true, laidLooks := .later }
def FnPlanCardSaid : Prop := Claim7.holds Tryd.pinned (.plain (OpenSpec.ofChange fnPlanSpec)) fnPlanCard

/-- THE TIED CARD OF 'laws.FnExactSpan'. -/
def fnExactSpanCard : Claim7 := { stood := { row := fnExactSpanRow, standIns := [], harness := (true, "3b8b2605a79f4ddff190780b336cf6a7e788b83dc3e910198744922fade89dfa"), looks := true }, kinds := [], alts := [], laidByText := true, laidKinds := [.handle, .data], laidTests := true, laidLooks := .later }
def FnExactSpanCardSaid : Prop := Claim7.holds Tryd.pinned (.plain (OpenSpec.ofChange fnExactSpanSpec)) fnExactSpanCard

/-- THE TIED CARD OF 'laws.FnExactInterest'. -/
def fnExactInterestCard : Claim7 := { stood := { row := fnExactInterestRow, standIns := [], harness := (true, "3b8b2605a79f4ddff190780b336cf6a7e788b83dc3e910198744922fade89dfa"), looks := true }, kinds := [], alts := [], laidByText := true, laidKinds := [.handle, .data], laidTests := true, laidLooks := .later }
def FnExactInterestCardSaid : Prop := Claim7.holds Tryd.pinned (.plain (OpenSpec.ofChange fnExactInterestSpec)) fnExactInterestCard

/-- THE TIED CARD OF 'laws.FnExactLoanRight'. -/
def fnExactLoanRightCard : Claim7 := { stood := { row := fnExactLoanRightRow, standIns := [], harness := (true, "3b8b2605a79f4ddff190780b336cf6a7e788b83dc3e910198744922fade89dfa"), looks := true }, kinds := [], alts := [], laidByText := true, laidKinds := [.data], laidTests := true, laidLooks := .later }
def FnExactLoanRightCardSaid : Prop := Claim7.holds Tryd.pinned (.plain (OpenSpec.ofChange fnExactLoanRightSpec)) fnExactLoanRightCard

/-- THE TIED CARD OF 'laws.FnExactLoanLeft'. -/
def fnExactLoanLeftCard : Claim7 := { stood := { row := fnExactLoanLeftRow, standIns := [], harness := (true, "3b8b2605a79f4ddff190780b336cf6a7e788b83dc3e910198744922fade89dfa"), looks := true }, kinds := [], alts := [], laidByText := true, laidKinds := [.handle, .data], laidTests := true, laidLooks := .later }
def FnExactLoanLeftCardSaid : Prop := Claim7.holds Tryd.pinned (.plain (OpenSpec.ofChange fnExactLoanLeftSpec)) fnExactLoanLeftCard

/-- THE TIED CARD OF 'laws.FnExactInstalment'. -/
def fnExactInstalmentCard : Claim7 := { stood := { row := fnExactInstalmentRow, standIns := [], harness := (true, "3b8b2605a79f4ddff190780b336cf6a7e788b83dc3e910198744922fade89dfa"), looks := true }, kinds := [], alts := [], laidByText := true, laidKinds := [.handle, .data], laidTests := true, laidLooks := .later }
def FnExactInstalmentCardSaid : Prop := Claim7.holds Tryd.pinned (.plain (OpenSpec.ofChange fnExactInstalmentSpec)) fnExactInstalmentCard

/-- THE TIED CARD OF 'laws.FnExactPlan'. -/
def fnExactPlanCard : Claim7 := { stood := { row := fnExactPlanRow, standIns := [], harness := (true, "3b8b2605a79f4ddff190780b336cf6a7e788b83dc3e910198744922fade89dfa"), looks := true }, kinds := [], alts := [], laidByText := true, laidKinds := [.handle, .data], laidTests := true, laidLooks := .later }
def FnExactPlanCardSaid : Prop := Claim7.holds Tryd.pinned (.plain (OpenSpec.ofChange fnExactPlanSpec)) fnExactPlanCard

/-- THE SECOND FORM's CARD OF 'laws.FnInterest'. -/
def fnInterestUptoCard : Claim7 := { stood := { row := fnInterestUptoRow, standIns := [], harness := (true, "3b8b2605a79f4ddff190780b336cf6a7e788b83dc3e910198744922fade89dfa"), looks := true }, kinds := [], alts := [], laidByText := true, laidKinds := [.handle, .data], laidTests := true, laidLooks := .later }
def FnInterestUptoCardSaid : Prop := Claim7.holds Tryd.pinned (.plain (OpenSpec.upto fnInterestSpec)) fnInterestUptoCard

/-- THE SECOND FORM's CARD OF 'laws.FnInstalment'. -/
def fnInstalmentUptoCard : Claim7 := { stood := { row := fnInstalmentUptoRow, standIns := [], harness := (true, "3b8b2605a79f4ddff190780b336cf6a7e788b83dc3e910198744922fade89dfa"), looks := true }, kinds := [], alts := [], laidByText := true, laidKinds := [.handle, .data], laidTests := true, laidLooks := .later }
def FnInstalmentUptoCardSaid : Prop := Claim7.holds Tryd.pinned (.plain (OpenSpec.upto fnInstalmentSpec)) fnInstalmentUptoCard

/-- THE SECOND FORM's CARD OF 'laws.FnPlan'. -/
def fnPlanUptoCard : Claim7 := { stood := { row := fnPlanUptoRow, standIns := [], harness := (true, "3b8b2605a79f4ddff190780b336cf6a7e788b83dc3e910198744922fade89dfa"), looks := true }, kinds := [], alts := [], laidByText := true, laidKinds := [.handle, .data], laidTests := true, laidLooks := .later }
def FnPlanUptoCardSaid : Prop := Claim7.holds Tryd.pinned (.plain (OpenSpec.upto fnPlanSpec)) fnPlanUptoCard

/-- THE SECOND FORM's CARD OF 'laws.FnExactSpan'. -/
def fnExactSpanUptoCard : Claim7 := { stood := { row := fnExactSpanUptoRow, standIns := [], harness := (true, "3b8b2605a79f4ddff190780b336cf6a7e788b83dc3e910198744922fade89dfa"), looks := true }, kinds := [], alts := [], laidByText := true, laidKinds := [.handle, .data], laidTests := true, laidLooks := .later }
def FnExactSpanUptoCardSaid : Prop := Claim7.holds Tryd.pinned (.plain (OpenSpec.upto fnExactSpanSpec)) fnExactSpanUptoCard

/-- THE SECOND FORM's CARD OF 'laws.FnExactInterest'. -/
def fnExactInterestUptoCard : Claim7 := { stood := { row := fnExactInterestUptoRow, standIns := [], harness := (true, "3b8b2605a79f4ddff190780b336cf6a7e788b83dc3e910198744922fade89dfa"), looks := true }, kinds := [], alts := [], laidByText := true, laidKinds := [.handle, .data], laidTests := true, laidLooks := .later }
def FnExactInterestUptoCardSaid : Prop := Claim7.holds Tryd.pinned (.plain (OpenSpec.upto fnExactInterestSpec)) fnExactInterestUptoCard

/-- THE SECOND FORM's CARD OF 'laws.FnExactLoanRight'. -/
def fnExactLoanRightUptoCard : Claim7 := { stood := { row := fnExactLoanRightUptoRow, standIns := [], harness := (true, "3b8b2605a79f4ddff190780b336cf6a7e788b83dc3e910198744922fade89dfa"), looks := true }, kinds := [], alts := [], laidByText := true, laidKinds := [.data], laidTests := true, laidLooks := .later }
def FnExactLoanRightUptoCardSaid : Prop := Claim7.holds Tryd.pinned (.plain (OpenSpec.upto fnExactLoanRightSpec)) fnExactLoanRightUptoCard

/-- THE SECOND FORM's CARD OF 'laws.FnExactLoanLeft'. -/
def fnExactLoanLeftUptoCard : Claim7 := { stood := { row := fnExactLoanLeftUptoRow, standIns := [], harness := (true, "3b8b2605a79f4ddff190780b336cf6a7e788b83dc3e910198744922fade89dfa"), looks := true }, kinds := [], alts := [], laidByText := true, laidKinds := [.handle, .data], laidTests := true, laidLooks := .later }
def FnExactLoanLeftUptoCardSaid : Prop := Claim7.holds Tryd.pinned (.plain (OpenSpec.upto fnExactLoanLeftSpec)) fnExactLoanLeftUptoCard

/-- THE SECOND FORM's CARD OF 'laws.FnExactInstalment'. -/
def fnExactInstalmentUptoCard : Claim7 := { stood := { row := fnExactInstalmentUptoRow, standIns := [], harness := (true, "3b8b2605a79f4ddff190780b336cf6a7e788b83dc3e910198744922fade89dfa"), looks := true }, kinds := [], alts := [], laidByText := true, laidKinds := [.handle, .data], laidTests := true, laidLooks := .later }
def FnExactInstalmentUptoCardSaid : Prop := Claim7.holds Tryd.pinned (.plain (OpenSpec.upto fnExactInstalmentSpec)) fnExactInstalmentUptoCard

/-- THE SECOND FORM's CARD OF 'laws.FnExactPlan'. -/
def fnExactPlanUptoCard : Claim7 := { stood := { row := fnExactPlanUptoRow, standIns := [], harness := (true, "3b8b2605a79f4ddff190780b336cf6a7e788b83dc3e910198744922fade89dfa"), looks := true }, kinds := [], alts := [], laidByText := true, laidKinds := [.handle, .data], laidTests := true, laidLooks := .later }
def FnExactPlanUptoCardSaid : Prop := Claim7.holds Tryd.pinned (.plain (OpenSpec.upto fnExactPlanSpec)) fnExactPlanUptoCard
end Rows
end Go.Proofs.YtgkfjopbcphnhaaDoor
