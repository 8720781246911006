/-
  DERIVED. GIVEN WITH THE SEED: THE CARDS: each row of YtfdkpcejjcifgamGreatDoorRows.lean that lists a variable, with what it lists TIED to the program's text (the seventh form; the later family's looks); each row that meets fmt, with fmt's text TOLD by the authors' own Lean function (tested against real Go, not proved from fmt's source: count such statements apart). THE CARD IS WHAT COUNTS. Prove the row's statement (the work); the ties are given (YtfdkpcejjcifgamGreatDoorTie.lean); close each card by the builder's one call (the guide's Derived/Test/ToyasCard.lean, 'card_holds'). Laid BY PROGRAM, IN A SANDBOX (cutbox-door.mjs). By AI agents, Wed Nov 11 2026. No macro, syntax, notation, axiom, sorry.
-/
import Derived.Test.YtfdkpcejjcifgamGreatDoorRows
import GoSem.ClaimSeven
namespace Go.Proofs.YtfdkpcejjcifgamGreatDoor
namespace Rows

/-- THE TIED CARD OF 'laws.FnSpotRound'. -/
def fnSpotRoundCard : Claim7 := { stood := { row := fnSpotRoundRow, standIns := [], harness := (true, "1a30c06d3a09e62745e061bc17050db052800e2226dc24c67a223fa95b06b9a1"), looks := true }, kinds := [], alts := [], laidByText := true, laidKinds := [.sentinel], laidTests := true, laidLooks := .later }
def FnSpotRoundCardSaid : Prop := Claim7.holds Tryz.pinned (.plain (OpenSpec.ofChange fnSpotRoundSpec)) fnSpotRoundCard

/-- THE SECOND FORM's CARD OF 'laws.FnSpotRound'. -/
def fnSpotRoundUptoCard : Claim7 := { stood := { row := fnSpotRoundUptoRow, standIns := [], harness := (true, "1a30c06d3a09e62745e061bc17050db052800e2226dc24c67a223fa95b06b9a1"), looks := true }, kinds := [], alts := [], laidByText := true, laidKinds := [.sentinel], laidTests := true, laidLooks := .later }
def FnSpotRoundUptoCardSaid : Prop := Claim7.holds Tryz.pinned (.plain (OpenSpec.upto fnSpotRoundSpec)) fnSpotRoundUptoCard
end Rows
end Go.Proofs.YtfdkpcejjcifgamGreatDoor
