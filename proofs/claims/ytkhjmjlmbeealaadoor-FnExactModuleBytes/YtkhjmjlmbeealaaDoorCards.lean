/-
  DERIVED. GIVEN WITH THE SEED: THE CARDS: each row of YtkhjmjlmbeealaaDoorRows.lean that lists a variable, with what it lists TIED to the program's text (the seventh form; the later family's looks); each row that meets fmt, with fmt's text TOLD by the authors' own Lean function (tested against real Go, not proved from fmt's source: count such statements apart). THE CARD IS WHAT COUNTS. Prove the row's statement (the work); the ties are given (YtkhjmjlmbeealaaDoorTie.lean); close each card by the builder's one call (the guide's Derived/Test/ToyasCard.lean, 'card_holds'). Laid BY PROGRAM, IN A SANDBOX (cutbox-door.mjs). By AI agents, Wed Nov 11 2026. No macro, syntax, notation, axiom, sorry.
-/
import Derived.Test.YtkhjmjlmbeealaaDoorRows
import GoSem.ClaimSeven
namespace Go.Proofs.YtkhjmjlmbeealaaDoor
namespace Rows

/-- THE TIED CARD OF 'laws.FnOpNames'. -/
def fnOpNamesCard : Claim7 := { stood := { row := fnOpNamesRow, standIns := [], harness := (true, "8089b196b96a32a3185535225136d5a51e3bafa5ec950b88e26e956926e831aa"), looks := false }, kinds := [], alts := [], laidByText := true, laidKinds := [.data], laidTests := true, laidLooks := .later }
def FnOpNamesCardSaid : Prop := Claim7.holds Tryd.pinned (.plain (OpenSpec.ofChange fnOpNamesSpec)) fnOpNamesCard

/-- THE TIED CARD OF 'laws.FnExactOpName'. -/
def fnExactOpNameCard : Claim7 := { stood := { row := fnExactOpNameRow, standIns := [], harness := (true, "8089b196b96a32a3185535225136d5a51e3bafa5ec950b88e26e956926e831aa"), looks := false }, kinds := [], alts := [], laidByText := true, laidKinds := [.data], laidTests := true, laidLooks := .later }
def FnExactOpNameCardSaid : Prop := Claim7.holds Tryd.pinned (.plain (OpenSpec.ofChange fnExactOpNameSpec)) fnExactOpNameCard

/-- THE TIED CARD OF 'laws.FnExactInsRight'. -/
def fnExactInsRightCard : Claim7 := { stood := { row := fnExactInsRightRow, standIns := [], harness := (true, "8089b196b96a32a3185535225136d5a51e3bafa5ec950b88e26e956926e831aa"), looks := false }, kinds := [], alts := [], laidByText := true, laidKinds := [.data], laidTests := true, laidLooks := .later }
def FnExactInsRightCardSaid : Prop := Claim7.holds Tryd.pinned (.plain (OpenSpec.ofChange fnExactInsRightSpec)) fnExactInsRightCard

/-- THE TIED CARD OF 'laws.FnExactHeightsOf'. -/
def fnExactHeightsOfCard : Claim7 := { stood := { row := fnExactHeightsOfRow, standIns := [], harness := (true, "8089b196b96a32a3185535225136d5a51e3bafa5ec950b88e26e956926e831aa"), looks := false }, kinds := [], alts := [], laidByText := true, laidKinds := [.data, .data], laidTests := true, laidLooks := .later }
def FnExactHeightsOfCardSaid : Prop := Claim7.holds Tryd.pinned (.plain (OpenSpec.ofChange fnExactHeightsOfSpec)) fnExactHeightsOfCard

/-- THE TIED CARD OF 'laws.FnExactModuleRight'. -/
def fnExactModuleRightCard : Claim7 := { stood := { row := fnExactModuleRightRow, standIns := [], harness := (true, "8089b196b96a32a3185535225136d5a51e3bafa5ec950b88e26e956926e831aa"), looks := false }, kinds := [], alts := [], laidByText := true, laidKinds := [.data, .data], laidTests := true, laidLooks := .later }
def FnExactModuleRightCardSaid : Prop := Claim7.holds Tryd.pinned (.plain (OpenSpec.ofChange fnExactModuleRightSpec)) fnExactModuleRightCard

/-- THE TIED CARD OF 'laws.FnExactModuleBytes'. -/
def fnExactModuleBytesCard : Claim7 := { stood := { row := fnExactModuleBytesRow, standIns := [], harness := (true, "8089b196b96a32a3185535225136d5a51e3bafa5ec950b88e26e956926e831aa"), looks := false }, kinds := [], alts := [], laidByText := true, laidKinds := [.data, .data], laidTests := true, laidLooks := .later }
def FnExactModuleBytesCardSaid : Prop := Claim7.holds Tryd.pinned (.plain (OpenSpec.ofChange fnExactModuleBytesSpec)) fnExactModuleBytesCard

/-- THE TIED CARD OF 'laws.FnExactModuleRead'. -/
def fnExactModuleReadCard : Claim7 := { stood := { row := fnExactModuleReadRow, standIns := [], harness := (true, "8089b196b96a32a3185535225136d5a51e3bafa5ec950b88e26e956926e831aa"), looks := false }, kinds := [], alts := [], laidByText := true, laidKinds := [.data, .data], laidTests := true, laidLooks := .later }
def FnExactModuleReadCardSaid : Prop := Claim7.holds Tryd.pinned (.plain (OpenSpec.ofChange fnExactModuleReadSpec)) fnExactModuleReadCard

/-- THE SECOND FORM's CARD OF 'laws.FnOpNames'. -/
def fnOpNamesUptoCard : Claim7 := { stood := { row := fnOpNamesUptoRow, standIns := [], harness := (true, "8089b196b96a32a3185535225136d5a51e3bafa5ec950b88e26e956926e831aa"), looks := false }, kinds := [], alts := [], laidByText := true, laidKinds := [.data], laidTests := true, laidLooks := .later }
def FnOpNamesUptoCardSaid : Prop := Claim7.holds Tryd.pinned (.plain (OpenSpec.upto fnOpNamesSpec)) fnOpNamesUptoCard

/-- THE SECOND FORM's CARD OF 'laws.FnExactOpName'. -/
def fnExactOpNameUptoCard : Claim7 := { stood := { row := fnExactOpNameUptoRow, standIns := [], harness := (true, "8089b196b96a32a3185535225136d5a51e3bafa5ec950b88e26e956926e831aa"), looks := false }, kinds := [], alts := [], laidByText := true, laidKinds := [.data], laidTests := true, laidLooks := .later }
def FnExactOpNameUptoCardSaid : Prop := Claim7.holds Tryd.pinned (.plain (OpenSpec.upto fnExactOpNameSpec)) fnExactOpNameUptoCard

/-- THE SECOND FORM's CARD OF 'laws.FnExactInsRight'. -/
def fnExactInsRightUptoCard : Claim7 := { stood := { row := fnExactInsRightUptoRow, standIns := [], harness := (true, "8089b196b96a32a3185535225136d5a51e3bafa5ec950b88e26e956926e831aa"), looks := false }, kinds := [], alts := [], laidByText := true, laidKinds := [.data], laidTests := true, laidLooks := .later }
def FnExactInsRightUptoCardSaid : Prop := Claim7.holds Tryd.pinned (.plain (OpenSpec.upto fnExactInsRightSpec)) fnExactInsRightUptoCard

/-- THE SECOND FORM's CARD OF 'laws.FnExactHeightsOf'. -/
def fnExactHeightsOfUptoCard : Claim7 := { stood := { row := fnExactHeightsOfUptoRow, standIns := [], harness := (true, "8089b196b96a32a3185535225136d5a51e3bafa5ec950b88e26e956926e831aa"), looks := false }, kinds := [], alts := [], laidByText := true, laidKinds := [.data, .data], laidTests := true, laidLooks := .later }
def FnExactHeightsOfUptoCardSaid : Prop := Claim7.holds Tryd.pinned (.plain (OpenSpec.upto fnExactHeightsOfSpec)) fnExactHeightsOfUptoCard

/-- THE SECOND FORM's CARD OF 'laws.FnExactModuleRight'. -/
def fnExactModuleRightUptoCard : Claim7 := { stood := { row := fnExactModuleRightUptoRow, standIns := [], harness := (true, "8089b196b96a32a3185535225136d5a51e3bafa5ec950b88e26e956926e831aa"), looks := false }, kinds := [], alts := [], laidByText := true, laidKinds := [.data, .data], laidTests := true, laidLooks := .later }
def FnExactModuleRightUptoCardSaid : Prop := Claim7.holds Tryd.pinned (.plain (OpenSpec.upto fnExactModuleRightSpec)) fnExactModuleRightUptoCard

/-- THE SECOND FORM's CARD OF 'laws.FnExactModuleBytes'. -/
def fnExactModuleBytesUptoCard : Claim7 := { stood := { row := fnExactModuleBytesUptoRow, standIns := [], harness := (true, "8089b196b96a32a3185535225136d5a51e3bafa5ec950b88e26e956926e831aa"), looks := false }, kinds := [], alts := [], laidByText := true, laidKinds := [.data, .data], laidTests := true, laidLooks := .later }
def FnExactModuleBytesUptoCardSaid : Prop := Claim7.holds Tryd.pinned (.plain (OpenSpec.upto fnExactModuleBytesSpec)) fnExactModuleBytesUptoCard

/-- THE SECOND FORM's CARD OF 'laws.FnExactModuleRead'. -/
def fnExactModuleReadUptoCard : Claim7 := { stood := { row := fnExactModuleReadUptoRow, standIns := [], harness := (true, "8089b196b96a32a3185535225136d5a51e3bafa5ec950b88e26e956926e831aa"), looks := false }, kinds := [], alts := [], laidByText := true, laidKinds := [.data, .data], laidTests := true, laidLooks := .later }
def FnExactModuleReadUptoCardSaid : Prop := Claim7.holds Tryd.pinned (.plain (OpenSpec.upto fnExactModuleReadSpec)) fnExactModuleReadUptoCard
end Rows
end Go.Proofs.YtkhjmjlmbeealaaDoor
