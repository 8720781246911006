/-
  DERIVED. GIVEN WITH THE SEED: THE CARDS: each row of YtfdkpcejjcifgalDoorRows.lean that lists a variable, with what it lists TIED to the program's text (the seventh form; the later family's looks); each row that meets fmt, with fmt's text TOLD by the authors' own Lean function (tested against real Go, not proved from fmt's source: count such statements apart). THE CARD IS WHAT COUNTS. Prove the row's statement (the work); the ties are given (YtfdkpcejjcifgalDoorTie.lean); close each card by the builder's one call (the guide's Derived/Test/ToyasCard.lean, 'card_holds'). Laid BY PROGRAM, IN A SANDBOX (cutbox-door.mjs). By AI agents, Wed Nov 11 2026. No macro, syntax, notation, axiom, sorry.
-/
import Derived.Test.YtfdkpcejjcifgalDoorRows
import GoSem.ClaimSeven
namespace Go.Proofs.YtfdkpcejjcifgalDoor
namespace Rows

/-- THE TIED CARD OF 'laws.FnFanRound'. -/
def fnFanRoundCard : Claim7 := { stood := { row := fnFanRoundRow, standIns := [], harness := (true, "b6f33a2eedd8a4635ee7a356f811b6880ab5d546c0570ed80459763588e7866c"), looks := true }, kinds := [], alts := [], laidByText := true, laidKinds := [.sentinel], laidTests := true, laidLooks := .later }
def FnFanRoundCardSaid : Prop := Claim7.holds Tryd.pinned (.plain (OpenSpec.ofChange fnFanRoundSpec)) fnFanRoundCard

/-- THE TIED CARD OF 'laws.FnSpotSame'. -/
def fnSpotSameCard : Claim7 := { stood := { row := fnSpotSameRow, standIns := [], harness := (true, "b6f33a2eedd8a4635ee7a356f811b6880ab5d546c0570ed80459763588e7866c"), looks := true }, kinds := [], alts := [], laidByText := true, laidKinds := [.sentinel], laidTests := true, laidLooks := .later }
def FnSpotSameCardSaid : Prop := Claim7.holds Tryd.pinned (.plain (OpenSpec.ofChange fnSpotSameSpec)) fnSpotSameCard

/-- THE TIED CARD OF 'laws.FnSpotFar'. -/
def fnSpotFarCard : Claim7 := { stood := { row := fnSpotFarRow, standIns := [], harness := (true, "b6f33a2eedd8a4635ee7a356f811b6880ab5d546c0570ed80459763588e7866c"), looks := true }, kinds := [], alts := [], laidByText := true, laidKinds := [.sentinel], laidTests := true, laidLooks := .later }
def FnSpotFarCardSaid : Prop := Claim7.holds Tryd.pinned (.plain (OpenSpec.ofChange fnSpotFarSpec)) fnSpotFarCard

/-- THE SECOND FORM's CARD OF 'laws.FnFanRound'. -/
def fnFanRoundUptoCard : Claim7 := { stood := { row := fnFanRoundUptoRow, standIns := [], harness := (true, "b6f33a2eedd8a4635ee7a356f811b6880ab5d546c0570ed80459763588e7866c"), looks := true }, kinds := [], alts := [], laidByText := true, laidKinds := [.sentinel], laidTests := true, laidLooks := .later }
def FnFanRoundUptoCardSaid : Prop := Claim7.holds Tryd.pinned (.plain (OpenSpec.upto fnFanRoundSpec)) fnFanRoundUptoCard

/-- THE SECOND FORM's CARD OF 'laws.FnSpotSame'. -/
def fnSpotSameUptoCard : Claim7 := { stood := { row := fnSpotSameUptoRow, standIns := [], harness := (true, "b6f33a2eedd8a4635ee7a356f811b6880ab5d546c0570ed80459763588e7866c"), looks := true }, kinds := [], alts := [], laidByText := true, laidKinds := [.sentinel], laidTests := true, laidLooks := .later }
def FnSpotSameUptoCardSaid : Prop := Claim7.holds Tryd.pinned (.plain (OpenSpec.upto fnSpotSameSpec)) fnSpotSameUptoCard

/-- THE SECOND FORM's CARD OF 'laws.FnSpotFar'. -/
def fnSpotFarUptoCard : Claim7 := { stood := { row := fnSpotFarUptoRow, standIns := [], harness := (true, "b6f33a2eedd8a4635ee7a356f811b6880ab5d546c0570ed80459763588e7866c"), looks := true }, kinds := [], alts := [], laidByText := true, laidKinds := [.sentinel], laidTests := true, laidLooks := .later }
def FnSpotFarUptoCardSaid : Prop := Claim7.holds Tryd.pinned (.plain (OpenSpec.upto fnSpotFarSpec)) fnSpotFarUptoCard
end Rows
end Go.Proofs.YtfdkpcejjcifgalDoor
