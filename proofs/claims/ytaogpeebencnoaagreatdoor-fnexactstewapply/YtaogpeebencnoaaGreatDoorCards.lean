/-
  DERIVED. GIVEN WITH THE SEED: THE CARDS: each row of YtaogpeebencnoaaGreatDoorRows.lean that lists a variable, with what it lists TIED to the program's text (the seventh form; the later family's looks); each row that meets fmt, with fmt's text TOLD by the authors' own Lean function (tested against real Go, not proved from fmt's source: count such statements apart). THE CARD IS WHAT COUNTS. Prove the row's statement (the work); the ties are given (YtaogpeebencnoaaGreatDoorTie.lean); close each card by the builder's one call (the guide's Derived/Test/ToyasCard.lean, 'card_holds'). Laid BY PROGRAM, IN A SANDBOX (cutbox-door.mjs). By AI agents, Wed Nov 11 2026. No macro, syntax, notation, axiom, sorry.
-/
import Derived.Test.YtaogpeebencnoaaGreatDoorRows
import GoSem.ClaimSeven
namespace Go.Proofs.YtaogpeebencnoaaGreatDoor
namespace Rows

/-- THE TIED CARD OF 'laws.FnExactStewApply'. -/
def fnExactStewApplyCard : Claim7 := { stood := { row := fnExactStewApplyRow, standIns := [], harness := (true, "b9f2766f67ef3949dc4694bd7f78545cec5a4e48acdeb3ace4371c930af8434d"), looks := true }, kinds := [], alts := [], laidByText := true, laidKinds := [.handle], laidTests := true, laidLooks := .later }
def FnExactStewApplyCardSaid : Prop := Claim7.holds Tryz.pinned (.plain (OpenSpec.ofChange fnExactStewApplySpec)) fnExactStewApplyCard

/-- THE SECOND FORM's CARD OF 'laws.FnExactStewApply'. -/
def fnExactStewApplyUptoCard : Claim7 := { stood := { row := fnExactStewApplyUptoRow, standIns := [], harness := (true, "b9f2766f67ef3949dc4694bd7f78545cec5a4e48acdeb3ace4371c930af8434d"), looks := true }, kinds := [], alts := [], laidByText := true, laidKinds := [.handle], laidTests := true, laidLooks := .later }
def FnExactStewApplyUptoCardSaid : Prop := Claim7.holds Tryz.pinned (.plain (OpenSpec.upto fnExactStewApplySpec)) fnExactStewApplyUptoCard
end Rows
end Go.Proofs.YtaogpeebencnoaaGreatDoor
