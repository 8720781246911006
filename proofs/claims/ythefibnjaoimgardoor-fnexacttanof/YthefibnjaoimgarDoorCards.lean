/-
  DERIVED. GIVEN WITH THE SEED: THE CARDS: each row of YthefibnjaoimgarDoorRows.lean that lists a variable, with what it lists TIED to the program's text (the seventh form; the later family's looks); each row that meets fmt, with fmt's text TOLD by the authors' own Lean function (tested against real Go, not proved from fmt's source: count such statements apart). THE CARD IS WHAT COUNTS. Prove the row's statement (the work); the ties are given (YthefibnjaoimgarDoorTie.lean); close each card by the builder's one call (the guide's Derived/Test/ToyasCard.lean, 'card_holds'). Laid BY PROGRAM, IN A SANDBOX (cutbox-door.mjs). By AI agents, Wed Nov 11 2026. No macro, syntax, notation, axiom, sorry.
-/
import Derived.Test.YthefibnjaoimgarDoorRows
import GoSem.ClaimSeven
namespace Go.Proofs.YthefibnjaoimgarDoor
namespace Rows

/-- THE TIED CARD OF 'laws.FnExactTanOf'. -/
def fnExactTanOfCard : Claim7 := { stood := { row := fnExactTanOfRow, standIns := [], harness := (true, "87250a6efb1d2d852c7e8d0cd5ab4a08d0ebefcea6b8deae06879dfb6e27bb49"), looks := true }, kinds := [], alts := [], laidByText := true, laidKinds := [.sentinel], laidTests := true, laidLooks := .later }
def FnExactTanOfCardSaid : Prop := Claim7.holds Tryd.pinned (.plain (OpenSpec.ofChange fnExactTanOfSpec)) fnExactTanOfCard

/-- THE SECOND FORM's CARD OF 'laws.FnExactTanOf'. -/
def fnExactTanOfUptoCard : Claim7 := { stood := { row := fnExactTanOfUptoRow, standIns := [], harness := (true, "87250a6efb1d2d852c7e8d0cd5ab4a08d0ebefcea6b8deae06879dfb6e27bb49"), looks := true }, kinds := [], alts := [], laidByText := true, laidKinds := [.sentinel], laidTests := true, laidLooks := .later }
def FnExactTanOfUptoCardSaid : Prop := Claim7.holds Tryd.pinned (.plain (OpenSpec.upto fnExactTanOfSpec)) fnExactTanOfUptoCard
end Rows
end Go.Proofs.YthefibnjaoimgarDoor
