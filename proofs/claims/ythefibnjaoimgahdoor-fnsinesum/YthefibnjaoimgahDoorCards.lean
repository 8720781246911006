/-
  DERIVED. GIVEN WITH THE SEED: THE CARDS: each row of YthefibnjaoimgahDoorRows.lean that lists a variable, with what it lists TIED to the program's text (the seventh form; the later family's looks); each row that meets fmt, with fmt's text TOLD by the authors' own Lean function (tested against real Go, not proved from fmt's source: count such statements apart). THE CARD IS WHAT COUNTS. Prove the row's statement (the work); the ties are given (YthefibnjaoimgahDoorTie.lean); close each card by the builder's one call (the guide's Derived/Test/ToyasCard.lean, 'card_holds'). Laid BY PROGRAM, IN A SANDBOX (cutbox-door.mjs). By AI agents, Wed Nov 11 2026. No macro, syntax, notation, axiom, sorry.
-/
import Derived.Test.YthefibnjaoimgahDoorRows
import GoSem.ClaimSeven
namespace Go.Proofs.YthefibnjaoimgahDoor
namespace Rows

/-- THE TIED CARD OF 'laws.FnSineTurn'. -/
def fnSineTurnCard : Claim7 := { stood := { row := fnSineTurnRow, standIns := [], harness := (true, "da1ea25a3e6eb345be7b9ddf8ed2e8f6bd7d69e692f2cec248e044dfbd5a7414"), looks := true }, kinds := [], alts := [], laidByText := true, laidKinds := [.sentinel], laidTests := true, laidLooks := .later }
def FnSineTurnCardSaid : Prop := Claim7.holds Tryd.pinned (.plain (OpenSpec.ofChange fnSineTurnSpec)) fnSineTurnCard

/-- THE TIED CARD OF 'laws.FnSineHalf'. -/
def fnSineHalfCard : Claim7 := { stood := { row := fnSineHalfRow, standIns := [], harness := (true, "da1ea25a3e6eb345be7b9ddf8ed2e8f6bd7d69e692f2cec248e044dfbd5a7414"), looks := true }, kinds := [], alts := [], laidByText := true, laidKinds := [.sentinel], laidTests := true, laidLooks := .later }
def FnSineHalfCardSaid : Prop := Claim7.holds Tryd.pinned (.plain (OpenSpec.ofChange fnSineHalfSpec)) fnSineHalfCard

/-- THE TIED CARD OF 'laws.FnSineSquares'. -/
def fnSineSquaresCard : Claim7 := { stood := { row := fnSineSquaresRow, standIns := [], harness := (true, "da1ea25a3e6eb345be7b9ddf8ed2e8f6bd7d69e692f2cec248e044dfbd5a7414"), looks := true }, kinds := [], alts := [], laidByText := true, laidKinds := [.sentinel], laidTests := true, laidLooks := .later }
def FnSineSquaresCardSaid : Prop := Claim7.holds Tryd.pinned (.plain (OpenSpec.ofChange fnSineSquaresSpec)) fnSineSquaresCard

/-- THE TIED CARD OF 'laws.FnSineSum'. -/
def fnSineSumCard : Claim7 := { stood := { row := fnSineSumRow, standIns := [], harness := (true, "da1ea25a3e6eb345be7b9ddf8ed2e8f6bd7d69e692f2cec248e044dfbd5a7414"), looks := true }, kinds := [], alts := [], laidByText := true, laidKinds := [.sentinel], laidTests := true, laidLooks := .later }
def FnSineSumCardSaid : Prop := Claim7.holds Tryd.pinned (.plain (OpenSpec.ofChange fnSineSumSpec)) fnSineSumCard

/-- THE SECOND FORM's CARD OF 'laws.FnSineTurn'. -/
def fnSineTurnUptoCard : Claim7 := { stood := { row := fnSineTurnUptoRow, standIns := [], harness := (true, "da1ea25a3e6eb345be7b9ddf8ed2e8f6bd7d69e692f2cec248e044dfbd5a7414"), looks := true }, kinds := [], alts := [], laidByText := true, laidKinds := [.sentinel], laidTests := true, laidLooks := .later }
def FnSineTurnUptoCardSaid : Prop := Claim7.holds Tryd.pinned (.plain (OpenSpec.upto fnSineTurnSpec)) fnSineTurnUptoCard

/-- THE SECOND FORM's CARD OF 'laws.FnSineHalf'. -/
def fnSineHalfUptoCard : Claim7 := { stood := { row := fnSineHalfUptoRow, standIns := [], harness := (true, "da1ea25a3e6eb345be7b9ddf8ed2e8f6bd7d69e692f2cec248e044dfbd5a7414"), looks := true }, kinds := [], alts := [], laidByText := true, laidKinds := [.sentinel], laidTests := true, laidLooks := .later }
def FnSineHalfUptoCardSaid : Prop := Claim7.holds Tryd.pinned (.plain (OpenSpec.upto fnSineHalfSpec)) fnSineHalfUptoCard

/-- THE SECOND FORM's CARD OF 'laws.FnSineSquares'. -/
def fnSineSquaresUptoCard : Claim7 := { stood := { row := fnSineSquaresUptoRow, standIns := [], harness := (true, "da1ea25a3e6eb345be7b9ddf8ed2e8f6bd7d69e692f2cec248e044dfbd5a7414"), looks := true }, kinds := [], alts := [], laidByText := true, laidKinds := [.sentinel], laidTests := true, laidLooks := .later }
def FnSineSquaresUptoCardSaid : Prop := Claim7.holds Tryd.pinned (.plain (OpenSpec.upto fnSineSquaresSpec)) fnSineSquaresUptoCard

/-- THE SECOND FORM's CARD OF 'laws.FnSineSum'. -/
def fnSineSumUptoCard : Claim7 := { stood := { row := fnSineSumUptoRow, standIns := [], harness := (true, "da1ea25a3e6eb345be7b9ddf8ed2e8f6bd7d69e692f2cec248e044dfbd5a7414"), looks := true }, kinds := [], alts := [], laidByText := true, laidKinds := [.sentinel], laidTests := true, laidLooks := .later }
def FnSineSumUptoCardSaid : Prop := Claim7.holds Tryd.pinned (.plain (OpenSpec.upto fnSineSumSpec)) fnSineSumUptoCard
end Rows
end Go.Proofs.YthefibnjaoimgahDoor
