/-
  DERIVED. GIVEN WITH THE SEED: THE CARDS: each row of YtfdkpcejjcifgauGreatDoorRows.lean that lists a variable, with what it lists TIED to the program's text (the seventh form; the later family's looks); each row that meets fmt, with fmt's text TOLD by the authors' own Lean function (tested against real Go, not proved from fmt's source: count such statements apart). THE CARD IS WHAT COUNTS. Prove the row's statement (the work); the ties are given (YtfdkpcejjcifgauGreatDoorTie.lean); close each card by the builder's one call (the guide's Derived/Test/ToyasCard.lean, 'card_holds'). Laid BY PROGRAM, IN A SANDBOX (cutbox-door.mjs). By AI agents, Wed Nov 11 2026. No macro, syntax, notation, axiom, sorry.
-/
import Derived.Test.YtfdkpcejjcifgauGreatDoorRows
import GoSem.ClaimSeven
namespace Go.Proofs.YtfdkpcejjcifgauGreatDoor
namespace Rows

/-- THE TIED CARD OF 'laws.FnExactSpotRound'. -/
def fnExactSpotRoundCard : Claim7 := { stood := { row := fnExactSpotRoundRow, standIns := [], harness := (true, "ab9b0f44b4c9506a4c415b3b34c55361baff9ebf05bc5bd9d1d117264ee2e9c0"), looks := true }, kinds := [], alts := [], laidByText := true, laidKinds := [.sentinel], laidTests := true, laidLooks := .later }
def FnExactSpotRoundCardSaid : Prop := Claim7.holds Tryz.pinned (.plain (OpenSpec.ofChange fnExactSpotRoundSpec)) fnExactSpotRoundCard

/-- THE SECOND FORM's CARD OF 'laws.FnExactSpotRound'. -/
def fnExactSpotRoundUptoCard : Claim7 := { stood := { row := fnExactSpotRoundUptoRow, standIns := [], harness := (true, "ab9b0f44b4c9506a4c415b3b34c55361baff9ebf05bc5bd9d1d117264ee2e9c0"), looks := true }, kinds := [], alts := [], laidByText := true, laidKinds := [.sentinel], laidTests := true, laidLooks := .later }
def FnExactSpotRoundUptoCardSaid : Prop := Claim7.holds Tryz.pinned (.plain (OpenSpec.upto fnExactSpotRoundSpec)) fnExactSpotRoundUptoCard
end Rows
end Go.Proofs.YtfdkpcejjcifgauGreatDoor
