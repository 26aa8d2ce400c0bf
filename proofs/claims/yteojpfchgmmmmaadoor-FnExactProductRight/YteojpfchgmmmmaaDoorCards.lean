/-
  DERIVED. GIVEN WITH THE SEED: THE CARDS: each row of YteojpfchgmmmmaaDoorRows.lean that lists a variable, with what it lists TIED to the program's text (the seventh form; the later family's looks); each row that meets fmt, with fmt's text TOLD by the authors' own Lean function (tested against real Go, not proved from fmt's source: count such statements apart). THE CARD IS WHAT COUNTS. Prove the row's statement (the work); the ties are given (YteojpfchgmmmmaaDoorTie.lean); close each card by the builder's one call (the guide's Derived/Test/ToyasCard.lean, 'card_holds'). Laid BY PROGRAM, IN A SANDBOX (cutbox-door.mjs). By AI agents, Wed Nov 11 2026. No macro, syntax, notation, axiom, sorry.
-/
import Derived.Test.YteojpfchgmmmmaaDoorRows
import GoSem.ClaimSeven
namespace Go.Proofs.YteojpfchgmmmmaaDoor
namespace Rows

/-- THE TIED CARD OF 'laws.FnExactProductRight'. -/
def fnExactProductRightCard : Claim7 := { stood := { row := fnExactProductRightRow, standIns := [], harness := (true, "8e041410727b791cc698620944c442043238162eb1ba6a73da47899109c917ec"), looks := false }, kinds := [], alts := [], laidByText := true, laidKinds := [.listed, .data], laidTests := true, laidLooks := .later }
def FnExactProductRightCardSaid : Prop := Claim7.holds Tryd.pinned (.plain (OpenSpec.ofChange fnExactProductRightSpec)) fnExactProductRightCard

/-- THE SECOND FORM's CARD OF 'laws.FnExactProductRight'. -/
def fnExactProductRightUptoCard : Claim7 := { stood := { row := fnExactProductRightUptoRow, standIns := [], harness := (true, "8e041410727b791cc698620944c442043238162eb1ba6a73da47899109c917ec"), looks := false }, kinds := [], alts := [], laidByText := true, laidKinds := [.listed, .data], laidTests := true, laidLooks := .later }
def FnExactProductRightUptoCardSaid : Prop := Claim7.holds Tryd.pinned (.plain (OpenSpec.upto fnExactProductRightSpec)) fnExactProductRightUptoCard
end Rows
end Go.Proofs.YteojpfchgmmmmaaDoor
