/-
  DERIVED. GIVEN WITH THE SEED: THE CARDS: each row of YtdbahildcecgbaaDoorRows.lean that lists a variable, with what it lists TIED to the program's text (the seventh form; the later family's looks); each row that meets fmt, with fmt's text TOLD by the authors' own Lean function (tested against real Go, not proved from fmt's source: count such statements apart). THE CARD IS WHAT COUNTS. Prove the row's statement (the work); the ties are given (YtdbahildcecgbaaDoorTie.lean); close each card by the builder's one call (the guide's Derived/Test/ToyasCard.lean, 'card_holds'). Laid BY PROGRAM, IN A SANDBOX (cutbox-door.mjs). By AI agents, Wed Nov 11 2026. No macro, syntax, notation, axiom, sorry.
-/
import Derived.Test.YtdbahildcecgbaaDoorRows
import GoSem.ClaimSeven
namespace Go.Proofs.YtdbahildcecgbaaDoor
namespace Rows

/-- THE TIED CARD OF 'laws.FnExactModuleRead'. -/
def fnExactModuleReadCard : Claim7 := { stood := { row := fnExactModuleReadRow, standIns := [], harness := (true, "afbb9245567d4328daf41852eb1cf849400ce90a06410e5984784277fd4a6572"), looks := false }, kinds := [], alts := [], laidByText := true, laidKinds := [.data, .data], laidTests := true, laidLooks := .later }
def FnExactModuleReadCardSaid : Prop := Claim7.holds Tryd.pinned (.plain (OpenSpec.ofChange fnExactModuleReadSpec)) fnExactModuleReadCard

/-- THE TIED CARD OF 'laws.FnExactFunctionNumber'. -/
def fnExactFunctionNumberCard : Claim7 := { stood := { row := fnExactFunctionNumberRow, standIns := [], harness := (true, "afbb9245567d4328daf41852eb1cf849400ce90a06410e5984784277fd4a6572"), looks := false }, kinds := [], alts := [], laidByText := true, laidKinds := [.data], laidTests := true, laidLooks := .later }
def FnExactFunctionNumberCardSaid : Prop := Claim7.holds Tryd.pinned (.plain (OpenSpec.ofChange fnExactFunctionNumberSpec)) fnExactFunctionNumberCard

/-- THE SECOND FORM's CARD OF 'laws.FnExactModuleRead'. -/
def fnExactModuleReadUptoCard : Claim7 := { stood := { row := fnExactModuleReadUptoRow, standIns := [], harness := (true, "afbb9245567d4328daf41852eb1cf849400ce90a06410e5984784277fd4a6572"), looks := false }, kinds := [], alts := [], laidByText := true, laidKinds := [.data, .data], laidTests := true, laidLooks := .later }
def FnExactModuleReadUptoCardSaid : Prop := Claim7.holds Tryd.pinned (.plain (OpenSpec.upto fnExactModuleReadSpec)) fnExactModuleReadUptoCard

/-- THE SECOND FORM's CARD OF 'laws.FnExactFunctionNumber'. -/
def fnExactFunctionNumberUptoCard : Claim7 := { stood := { row := fnExactFunctionNumberUptoRow, standIns := [], harness := (true, "afbb9245567d4328daf41852eb1cf849400ce90a06410e5984784277fd4a6572"), looks := false }, kinds := [], alts := [], laidByText := true, laidKinds := [.data], laidTests := true, laidLooks := .later }
def FnExactFunctionNumberUptoCardSaid : Prop := Claim7.holds Tryd.pinned (.plain (OpenSpec.upto fnExactFunctionNumberSpec)) fnExactFunctionNumberUptoCard
end Rows
end Go.Proofs.YtdbahildcecgbaaDoor
