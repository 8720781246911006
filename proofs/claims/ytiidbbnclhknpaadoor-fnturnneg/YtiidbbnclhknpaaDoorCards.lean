/-
  DERIVED. GIVEN WITH THE SEED: THE CARDS: each row of YtiidbbnclhknpaaDoorRows.lean that lists a variable, with what it lists TIED to the program's text (the seventh form; the later family's looks); each row that meets fmt, with fmt's text TOLD by the authors' own Lean function (tested against real Go, not proved from fmt's source: count such statements apart). THE CARD IS WHAT COUNTS. Prove the row's statement (the work); the ties are given (YtiidbbnclhknpaaDoorTie.lean); close each card by the builder's one call (the guide's Derived/Test/ToyasCard.lean, 'card_holds'). Laid BY PROGRAM, IN A SANDBOX (cutbox-door.mjs). By AI agents, Wed Nov 11 2026. No macro, syntax, notation, axiom, sorry.
-/
import Derived.Test.YtiidbbnclhknpaaDoorRows
import GoSem.ClaimSeven
namespace Go.Proofs.YtiidbbnclhknpaaDoor
namespace Rows

/-- THE TIED CARD OF 'laws.FnTurnBy'. -/
def fnTurnByCard : Claim7 := { stood := { row := fnTurnByRow, standIns := [], harness := (true, "7fbb9604bfda2ecd7bc85340ddc1dcc70372eb47228e0c582cd4f919b3fe3192"), looks := true }, kinds := [], alts := [], laidByText := true, laidKinds := [.sentinel], laidTests := true, laidLooks := .later }
def FnTurnByCardSaid : Prop := Claim7.holds Tryd.pinned (.plain (OpenSpec.ofChange fnTurnBySpec)) fnTurnByCard

/-- THE TIED CARD OF 'laws.FnTurnNeg'. -/
def fnTurnNegCard : Claim7 := { stood := { row := fnTurnNegRow, standIns := [], harness := (true, "7fbb9604bfda2ecd7bc85340ddc1dcc70372eb47228e0c582cd4f919b3fe3192"), looks := true }, kinds := [], alts := [], laidByText := true, laidKinds := [.sentinel], laidTests := true, laidLooks := .later }
def FnTurnNegCardSaid : Prop := Claim7.holds Tryd.pinned (.plain (OpenSpec.ofChange fnTurnNegSpec)) fnTurnNegCard

/-- THE SECOND FORM's CARD OF 'laws.FnTurnBy'. -/
def fnTurnByUptoCard : Claim7 := { stood := { row := fnTurnByUptoRow, standIns := [], harness := (true, "7fbb9604bfda2ecd7bc85340ddc1dcc70372eb47228e0c582cd4f919b3fe3192"), looks := true }, kinds := [], alts := [], laidByText := true, laidKinds := [.sentinel], laidTests := true, laidLooks := .later }
def FnTurnByUptoCardSaid : Prop := Claim7.holds Tryd.pinned (.plain (OpenSpec.upto fnTurnBySpec)) fnTurnByUptoCard

/-- THE SECOND FORM's CARD OF 'laws.FnTurnNeg'. -/
def fnTurnNegUptoCard : Claim7 := { stood := { row := fnTurnNegUptoRow, standIns := [], harness := (true, "7fbb9604bfda2ecd7bc85340ddc1dcc70372eb47228e0c582cd4f919b3fe3192"), looks := true }, kinds := [], alts := [], laidByText := true, laidKinds := [.sentinel], laidTests := true, laidLooks := .later }
def FnTurnNegUptoCardSaid : Prop := Claim7.holds Tryd.pinned (.plain (OpenSpec.upto fnTurnNegSpec)) fnTurnNegUptoCard
end Rows
end Go.Proofs.YtiidbbnclhknpaaDoor
