/-
  DERIVED. GIVEN WITH THE SEED: THE CARDS: each row of YtdbabdggefcpcaaDoorRows.lean that lists a variable, with what it lists TIED to the program's text (the seventh form; the later family's looks); each row that meets fmt, with fmt's text TOLD by the authors' own Lean function (tested against real Go, not proved from fmt's source: count such statements apart). THE CARD IS WHAT COUNTS. Prove the row's statement (the work); the ties are given (YtdbabdggefcpcaaDoorTie.lean); close each card by the builder's one call (the guide's Derived/Test/ToyasCard.lean, 'card_holds'). Laid BY PROGRAM, IN A SANDBOX (cutbox-door.mjs). By AI agents, Wed Nov 11 2026. No macro, syntax, notation, axiom, sorry.
-/
import Derived.Test.YtdbabdggefcpcaaDoorRows
import GoSem.ClaimSeven
namespace Go.Proofs.YtdbabdggefcpcaaDoor
namespace Rows

/-- THE TIED CARD OF 'laws.FnRecs'. -/
def fnRecsCard : Claim7 := { stood := { row := fnRecsRow, standIns := [], harness := (true, "bb2641aa711ce5a2695804ffbdfde298079838ad8731f2b9c716df3cbb07cb7a"), looks := true }, kinds := [], alts := [], laidByText := true, laidKinds := [.handle], laidTests := true, laidLooks := .later }
def FnRecsCardSaid : Prop := Claim7.holds Tryd.pinned (.plain (OpenSpec.ofChange fnRecsSpec)) fnRecsCard

/-- THE TIED CARD OF 'laws.FnExactBookBalance'. -/
def fnExactBookBalanceCard : Claim7 := { stood := { row := fnExactBookBalanceRow, standIns := [], harness := (true, "bb2641aa711ce5a2695804ffbdfde298079838ad8731f2b9c716df3cbb07cb7a"), looks := true }, kinds := [], alts := [], laidByText := true, laidKinds := [.handle], laidTests := true, laidLooks := .later }
def FnExactBookBalanceCardSaid : Prop := Claim7.holds Tryd.pinned (.plain (OpenSpec.ofChange fnExactBookBalanceSpec)) fnExactBookBalanceCard

/-- THE TIED CARD OF 'laws.FnExactRecsOf'. -/
def fnExactRecsOfCard : Claim7 := { stood := { row := fnExactRecsOfRow, standIns := [], harness := (true, "bb2641aa711ce5a2695804ffbdfde298079838ad8731f2b9c716df3cbb07cb7a"), looks := true }, kinds := [], alts := [], laidByText := true, laidKinds := [.handle], laidTests := true, laidLooks := .later }
def FnExactRecsOfCardSaid : Prop := Claim7.holds Tryd.pinned (.plain (OpenSpec.ofChange fnExactRecsOfSpec)) fnExactRecsOfCard

/-- THE SECOND FORM's CARD OF 'laws.FnRecs'. -/
def fnRecsUptoCard : Claim7 := { stood := { row := fnRecsUptoRow, standIns := [], harness := (true, "bb2641aa711ce5a2695804ffbdfde298079838ad8731f2b9c716df3cbb07cb7a"), looks := true }, kinds := [], alts := [], laidByText := true, laidKinds := [.handle], laidTests := true, laidLooks := .later }
def FnRecsUptoCardSaid : Prop := Claim7.holds Tryd.pinned (.plain (OpenSpec.upto fnRecsSpec)) fnRecsUptoCard

/-- THE SECOND FORM's CARD OF 'laws.FnExactBookBalance'. -/
def fnExactBookBalanceUptoCard : Claim7 := { stood := { row := fnExactBookBalanceUptoRow, standIns := [], harness := (true, "bb2641aa711ce5a2695804ffbdfde298079838ad8731f2b9c716df3cbb07cb7a"), looks := true }, kinds := [], alts := [], laidByText := true, laidKinds := [.handle], laidTests := true, laidLooks := .later }
def FnExactBookBalanceUptoCardSaid : Prop := Claim7.holds Tryd.pinned (.plain (OpenSpec.upto fnExactBookBalanceSpec)) fnExactBookBalanceUptoCard

/-- THE SECOND FORM's CARD OF 'laws.FnExactRecsOf'. -/
def fnExactRecsOfUptoCard : Claim7 := { stood := { row := fnExactRecsOfUptoRow, standIns := [], harness := (true, "bb2641aa711ce5a2695804ffbdfde298079838ad8731f2b9c716df3cbb07cb7a"), looks := true }, kinds := [], alts := [], laidByText := true, laidKinds := [.handle], laidTests := true, laidLooks := .later }
def FnExactRecsOfUptoCardSaid : Prop := Claim7.holds Tryd.pinned (.plain (OpenSpec.upto fnExactRecsOfSpec)) fnExactRecsOfUptoCard
end Rows
end Go.Proofs.YtdbabdggefcpcaaDoor
