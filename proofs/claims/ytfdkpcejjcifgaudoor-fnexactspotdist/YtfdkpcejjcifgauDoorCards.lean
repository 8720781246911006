/-
  DERIVED. GIVEN WITH THE SEED: THE CARDS: each row of YtfdkpcejjcifgauDoorRows.lean that lists a variable, with what it lists TIED to the program's text (the seventh form; the later family's looks); each row that meets fmt, with fmt's text TOLD by the authors' own Lean function (tested against real Go, not proved from fmt's source: count such statements apart). THE CARD IS WHAT COUNTS. Prove the row's statement (the work); the ties are given (YtfdkpcejjcifgauDoorTie.lean); close each card by the builder's one call (the guide's Derived/Test/ToyasCard.lean, 'card_holds'). Laid BY PROGRAM, IN A SANDBOX (cutbox-door.mjs). By AI agents, Wed Nov 11 2026. No macro, syntax, notation, axiom, sorry.
-/
import Derived.Test.YtfdkpcejjcifgauDoorRows
import GoSem.ClaimSeven
namespace Go.Proofs.YtfdkpcejjcifgauDoor
namespace Rows

/-- THE TIED CARD OF 'laws.FnExactSpotDist'. -/
def fnExactSpotDistCard : Claim7 := { stood := { row := fnExactSpotDistRow, standIns := [], harness := (true, "ca7222ac565ca87e1a6c01372a6b32369645f5e765c51e5c861c835b93e39fc6"), looks := true }, kinds := [], alts := [], laidByText := true, laidKinds := [.sentinel], laidTests := true, laidLooks := .later }
def FnExactSpotDistCardSaid : Prop := Claim7.holds Tryd.pinned (.plain (OpenSpec.ofChange fnExactSpotDistSpec)) fnExactSpotDistCard

/-- THE TIED CARD OF 'laws.FnExactSpotNear'. -/
def fnExactSpotNearCard : Claim7 := { stood := { row := fnExactSpotNearRow, standIns := [], harness := (true, "ca7222ac565ca87e1a6c01372a6b32369645f5e765c51e5c861c835b93e39fc6"), looks := true }, kinds := [], alts := [], laidByText := true, laidKinds := [.sentinel], laidTests := true, laidLooks := .later }
def FnExactSpotNearCardSaid : Prop := Claim7.holds Tryd.pinned (.plain (OpenSpec.ofChange fnExactSpotNearSpec)) fnExactSpotNearCard

/-- THE SECOND FORM's CARD OF 'laws.FnExactSpotDist'. -/
def fnExactSpotDistUptoCard : Claim7 := { stood := { row := fnExactSpotDistUptoRow, standIns := [], harness := (true, "ca7222ac565ca87e1a6c01372a6b32369645f5e765c51e5c861c835b93e39fc6"), looks := true }, kinds := [], alts := [], laidByText := true, laidKinds := [.sentinel], laidTests := true, laidLooks := .later }
def FnExactSpotDistUptoCardSaid : Prop := Claim7.holds Tryd.pinned (.plain (OpenSpec.upto fnExactSpotDistSpec)) fnExactSpotDistUptoCard

/-- THE SECOND FORM's CARD OF 'laws.FnExactSpotNear'. -/
def fnExactSpotNearUptoCard : Claim7 := { stood := { row := fnExactSpotNearUptoRow, standIns := [], harness := (true, "ca7222ac565ca87e1a6c01372a6b32369645f5e765c51e5c861c835b93e39fc6"), looks := true }, kinds := [], alts := [], laidByText := true, laidKinds := [.sentinel], laidTests := true, laidLooks := .later }
def FnExactSpotNearUptoCardSaid : Prop := Claim7.holds Tryd.pinned (.plain (OpenSpec.upto fnExactSpotNearSpec)) fnExactSpotNearUptoCard
end Rows
end Go.Proofs.YtfdkpcejjcifgauDoor
