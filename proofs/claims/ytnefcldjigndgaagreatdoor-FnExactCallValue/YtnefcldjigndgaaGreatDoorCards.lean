/-
  DERIVED. GIVEN WITH THE SEED: THE CARDS: each row of YtnefcldjigndgaaGreatDoorRows.lean that lists a variable, with what it lists TIED to the program's text (the seventh form; the later family's looks); each row that meets fmt, with fmt's text TOLD by the authors' own Lean function (tested against real Go, not proved from fmt's source: count such statements apart). THE CARD IS WHAT COUNTS. Prove the row's statement (the work); the ties are given (YtnefcldjigndgaaGreatDoorTie.lean); close each card by the builder's one call (the guide's Derived/Test/ToyasCard.lean, 'card_holds'). Laid BY PROGRAM, IN A SANDBOX (cutbox-door.mjs). By AI agents, Wed Nov 11 2026. No macro, syntax, notation, axiom, sorry.
-/
import Derived.Test.YtnefcldjigndgaaGreatDoorRows
import GoSem.ClaimSeven
namespace Go.Proofs.YtnefcldjigndgaaGreatDoor
namespace Rows

/-- THE TIED CARD OF 'laws.FnExactCallValue'. -/
def fnExactCallValueCard : Claim7 := { stood := { row := fnExactCallValueRow, standIns := [], harness := (true, "97ea55e19399588cf49c91b054cf48051b5f646bcd5a82ce17634b52fdd9c90c"), looks := true }, kinds := [], alts := [], laidByText := true, laidKinds := [.handle, .data, .data], laidTests := true, laidLooks := .later }
def FnExactCallValueCardSaid : Prop := Claim7.holds Tryz.pinned (.plain (OpenSpec.ofChange fnExactCallValueSpec)) fnExactCallValueCard

/-- THE SECOND FORM's CARD OF 'laws.FnExactCallValue'. -/
def fnExactCallValueUptoCard : Claim7 := { stood := { row := fnExactCallValueUptoRow, standIns := [], harness := (true, "97ea55e19399588cf49c91b054cf48051b5f646bcd5a82ce17634b52fdd9c90c"), looks := true }, kinds := [], alts := [], laidByText := true, laidKinds := [.handle, .data, .data], laidTests := true, laidLooks := .later }
def FnExactCallValueUptoCardSaid : Prop := Claim7.holds Tryz.pinned (.plain (OpenSpec.upto fnExactCallValueSpec)) fnExactCallValueUptoCard
end Rows
end Go.Proofs.YtnefcldjigndgaaGreatDoor
