/-
  DERIVED. GIVEN WITH THE SEED: THE CARDS: each row of YtnefcldjigndgaaDoorRows.lean that lists a variable, with what it lists TIED to the program's text (the seventh form; the later family's looks); each row that meets fmt, with fmt's text TOLD by the authors' own Lean function (tested against real Go, not proved from fmt's source: count such statements apart). THE CARD IS WHAT COUNTS. Prove the row's statement (the work); the ties are given (YtnefcldjigndgaaDoorTie.lean); close each card by the builder's one call (the guide's Derived/Test/ToyasCard.lean, 'card_holds'). Laid BY PROGRAM, IN A SANDBOX (cutbox-door.mjs). By AI agents, Wed Nov 11 2026. No macro, syntax, notation, axiom, sorry.
-/
import Derived.Test.YtnefcldjigndgaaDoorRows
import GoSem.ClaimSeven
namespace Go.Proofs.YtnefcldjigndgaaDoor
namespace Rows

/-- THE TIED CARD OF 'laws.FnExactReserved'. -/
def fnExactReservedCard : Claim7 := { stood := { row := fnExactReservedRow, standIns := [], harness := (true, "0ee520ad31568c376d476edad0a4448cd1825e3d830a254d568ba742a9d45e30"), looks := false }, kinds := [], alts := [], laidByText := true, laidKinds := [.listed, .data], laidTests := true, laidLooks := .later }
def FnExactReservedCardSaid : Prop := Claim7.holds Tryd.pinned (.plain (OpenSpec.ofChange fnExactReservedSpec)) fnExactReservedCard

/-- THE TIED CARD OF 'laws.FnExactNodesRight'. -/
def fnExactNodesRightCard : Claim7 := { stood := { row := fnExactNodesRightRow, standIns := [], harness := (true, "0ee520ad31568c376d476edad0a4448cd1825e3d830a254d568ba742a9d45e30"), looks := false }, kinds := [], alts := [], laidByText := true, laidKinds := [.listed, .data, .data], laidTests := true, laidLooks := .later }
def FnExactNodesRightCardSaid : Prop := Claim7.holds Tryd.pinned (.plain (OpenSpec.ofChange fnExactNodesRightSpec)) fnExactNodesRightCard

/-- THE TIED CARD OF 'laws.FnExactProductRight'. -/
def fnExactProductRightCard : Claim7 := { stood := { row := fnExactProductRightRow, standIns := [], harness := (true, "0ee520ad31568c376d476edad0a4448cd1825e3d830a254d568ba742a9d45e30"), looks := false }, kinds := [], alts := [], laidByText := true, laidKinds := [.listed, .data, .data], laidTests := true, laidLooks := .later }
def FnExactProductRightCardSaid : Prop := Claim7.holds Tryd.pinned (.plain (OpenSpec.ofChange fnExactProductRightSpec)) fnExactProductRightCard

/-- THE TIED CARD OF 'laws.FnExactEnvRight'. -/
def fnExactEnvRightCard : Claim7 := { stood := { row := fnExactEnvRightRow, standIns := [], harness := (true, "0ee520ad31568c376d476edad0a4448cd1825e3d830a254d568ba742a9d45e30"), looks := false }, kinds := [], alts := [], laidByText := true, laidKinds := [.listed, .data, .data], laidTests := true, laidLooks := .later }
def FnExactEnvRightCardSaid : Prop := Claim7.holds Tryd.pinned (.plain (OpenSpec.ofChange fnExactEnvRightSpec)) fnExactEnvRightCard

/-- THE SECOND FORM's CARD OF 'laws.FnExactReserved'. -/
def fnExactReservedUptoCard : Claim7 := { stood := { row := fnExactReservedUptoRow, standIns := [], harness := (true, "0ee520ad31568c376d476edad0a4448cd1825e3d830a254d568ba742a9d45e30"), looks := false }, kinds := [], alts := [], laidByText := true, laidKinds := [.listed, .data], laidTests := true, laidLooks := .later }
def FnExactReservedUptoCardSaid : Prop := Claim7.holds Tryd.pinned (.plain (OpenSpec.upto fnExactReservedSpec)) fnExactReservedUptoCard

/-- THE SECOND FORM's CARD OF 'laws.FnExactNodesRight'. -/
def fnExactNodesRightUptoCard : Claim7 := { stood := { row := fnExactNodesRightUptoRow, standIns := [], harness := (true, "0ee520ad31568c376d476edad0a4448cd1825e3d830a254d568ba742a9d45e30"), looks := false }, kinds := [], alts := [], laidByText := true, laidKinds := [.listed, .data, .data], laidTests := true, laidLooks := .later }
def FnExactNodesRightUptoCardSaid : Prop := Claim7.holds Tryd.pinned (.plain (OpenSpec.upto fnExactNodesRightSpec)) fnExactNodesRightUptoCard

/-- THE SECOND FORM's CARD OF 'laws.FnExactProductRight'. -/
def fnExactProductRightUptoCard : Claim7 := { stood := { row := fnExactProductRightUptoRow, standIns := [], harness := (true, "0ee520ad31568c376d476edad0a4448cd1825e3d830a254d568ba742a9d45e30"), looks := false }, kinds := [], alts := [], laidByText := true, laidKinds := [.listed, .data, .data], laidTests := true, laidLooks := .later }
def FnExactProductRightUptoCardSaid : Prop := Claim7.holds Tryd.pinned (.plain (OpenSpec.upto fnExactProductRightSpec)) fnExactProductRightUptoCard

/-- THE SECOND FORM's CARD OF 'laws.FnExactEnvRight'. -/
def fnExactEnvRightUptoCard : Claim7 := { stood := { row := fnExactEnvRightUptoRow, standIns := [], harness := (true, "0ee520ad31568c376d476edad0a4448cd1825e3d830a254d568ba742a9d45e30"), looks := false }, kinds := [], alts := [], laidByText := true, laidKinds := [.listed, .data, .data], laidTests := true, laidLooks := .later }
def FnExactEnvRightUptoCardSaid : Prop := Claim7.holds Tryd.pinned (.plain (OpenSpec.upto fnExactEnvRightSpec)) fnExactEnvRightUptoCard
end Rows
end Go.Proofs.YtnefcldjigndgaaDoor
