/-
  DERIVED. GIVEN WITH THE SEED: THE CARDS: each row of YtckdcejbojhlcaaGreatDoorRows.lean that lists a variable, with what it lists TIED to the program's text (the seventh form; the later family's looks); each row that meets fmt, with fmt's text TOLD by the authors' own Lean function (tested against real Go, not proved from fmt's source: count such statements apart). THE CARD IS WHAT COUNTS. Prove the row's statement (the work); the ties are given (YtckdcejbojhlcaaGreatDoorTie.lean); close each card by the builder's one call (the guide's Derived/Test/ToyasCard.lean, 'card_holds'). Laid BY PROGRAM, IN A SANDBOX (cutbox-door.mjs). By AI agents, Wed Nov 11 2026. No macro, syntax, notation, axiom, sorry.
-/
import Derived.Test.YtckdcejbojhlcaaGreatDoorRows
import GoSem.ClaimSeven
namespace Go.Proofs.YtckdcejbojhlcaaGreatDoor
namespace Rows

/-- THE TIED CARD OF 'laws.FnExactGateCheck'. -/
def fnExactGateCheckCard : Claim7 := { stood := { row := fnExactGateCheckRow, standIns := [], harness := (true, "52a5a3edd2611a9d6161a0083b5b4973ededec942cbaeae011daf878701a3318"), looks := true }, kinds := [], alts := [], laidByText := true, laidKinds := [.handle], laidTests := true, laidLooks := .later }
def FnExactGateCheckCardSaid : Prop := Claim7.holds Tryz.pinned (.plain (OpenSpec.ofChange fnExactGateCheckSpec)) fnExactGateCheckCard

/-- THE TIED CARD OF 'laws.FnExactGateTurned'. -/
def fnExactGateTurnedCard : Claim7 := { stood := { row := fnExactGateTurnedRow, standIns := [], harness := (true, "52a5a3edd2611a9d6161a0083b5b4973ededec942cbaeae011daf878701a3318"), looks := true }, kinds := [], alts := [], laidByText := true, laidKinds := [.handle], laidTests := true, laidLooks := .later }
def FnExactGateTurnedCardSaid : Prop := Claim7.holds Tryz.pinned (.plain (OpenSpec.ofChange fnExactGateTurnedSpec)) fnExactGateTurnedCard

/-- THE SECOND FORM's CARD OF 'laws.FnExactGateCheck'. -/
def fnExactGateCheckUptoCard : Claim7 := { stood := { row := fnExactGateCheckUptoRow, standIns := [], harness := (true, "52a5a3edd2611a9d6161a0083b5b4973ededec942cbaeae011daf878701a3318"), looks := true }, kinds := [], alts := [], laidByText := true, laidKinds := [.handle], laidTests := true, laidLooks := .later }
def FnExactGateCheckUptoCardSaid : Prop := Claim7.holds Tryz.pinned (.plain (OpenSpec.upto fnExactGateCheckSpec)) fnExactGateCheckUptoCard

/-- THE SECOND FORM's CARD OF 'laws.FnExactGateTurned'. -/
def fnExactGateTurnedUptoCard : Claim7 := { stood := { row := fnExactGateTurnedUptoRow, standIns := [], harness := (true, "52a5a3edd2611a9d6161a0083b5b4973ededec942cbaeae011daf878701a3318"), looks := true }, kinds := [], alts := [], laidByText := true, laidKinds := [.handle], laidTests := true, laidLooks := .later }
def FnExactGateTurnedUptoCardSaid : Prop := Claim7.holds Tryz.pinned (.plain (OpenSpec.upto fnExactGateTurnedSpec)) fnExactGateTurnedUptoCard
end Rows
end Go.Proofs.YtckdcejbojhlcaaGreatDoor
