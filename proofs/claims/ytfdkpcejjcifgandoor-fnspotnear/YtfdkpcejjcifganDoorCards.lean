/-
  DERIVED. GIVEN WITH THE SEED: THE CARDS: each row of YtfdkpcejjcifganDoorRows.lean that lists a variable, with what it lists TIED to the program's text (the seventh form; the later family's looks); each row that meets fmt, with fmt's text TOLD by the authors' own Lean function (tested against real Go, not proved from fmt's source: count such statements apart). THE CARD IS WHAT COUNTS. Prove the row's statement (the work); the ties are given (YtfdkpcejjcifganDoorTie.lean); close each card by the builder's one call (the guide's Derived/Test/ToyasCard.lean, 'card_holds'). Laid BY PROGRAM, IN A SANDBOX (cutbox-door.mjs). By AI agents, Wed Nov 11 2026. No macro, syntax, notation, axiom, sorry.
-/
import Derived.Test.YtfdkpcejjcifganDoorRows
import GoSem.ClaimSeven
namespace Go.Proofs.YtfdkpcejjcifganDoor
namespace Rows

/-- THE TIED CARD OF 'laws.FnSpotNear'. -/
def fnSpotNearCard : Claim7 := { stood := { row := fnSpotNearRow, standIns := [], harness := (true, "b9b989f0b190e55e8f9caa6221ad65f1aef29489cabfac021158f4019264403b"), looks := true }, kinds := [], alts := [], laidByText := true, laidKinds := [.sentinel], laidTests := true, laidLooks := .later }
def FnSpotNearCardSaid : Prop := Claim7.holds Tryd.pinned (.plain (OpenSpec.ofChange fnSpotNearSpec)) fnSpotNearCard

/-- THE SECOND FORM's CARD OF 'laws.FnSpotNear'. -/
def fnSpotNearUptoCard : Claim7 := { stood := { row := fnSpotNearUptoRow, standIns := [], harness := (true, "b9b989f0b190e55e8f9caa6221ad65f1aef29489cabfac021158f4019264403b"), looks := true }, kinds := [], alts := [], laidByText := true, laidKinds := [.sentinel], laidTests := true, laidLooks := .later }
def FnSpotNearUptoCardSaid : Prop := Claim7.holds Tryd.pinned (.plain (OpenSpec.upto fnSpotNearSpec)) fnSpotNearUptoCard
end Rows
end Go.Proofs.YtfdkpcejjcifganDoor
