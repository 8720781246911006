/-
  DERIVED. GIVEN WITH THE SEED: THE CARDS: each row of YtpddpekenccclaxDoorRows.lean that lists a variable, with what it lists TIED to the program's text (the seventh form; the later family's looks); each row that meets fmt, with fmt's text TOLD by the authors' own Lean function (tested against real Go, not proved from fmt's source: count such statements apart). THE CARD IS WHAT COUNTS. Prove the row's statement (the work); the ties are given (YtpddpekenccclaxDoorTie.lean); close each card by the builder's one call (the guide's Derived/Test/ToyasCard.lean, 'card_holds'). Laid BY PROGRAM, IN A SANDBOX (cutbox-door.mjs). By AI agents, Wed Nov 11 2026. No macro, syntax, notation, axiom, sorry.
-/
import Derived.Test.YtpddpekenccclaxDoorRows
import GoSem.ClaimSeven
namespace Go.Proofs.YtpddpekenccclaxDoor
namespace Rows

/-- THE TIED CARD OF 'laws.FnExactSpanRoot'. -/
def fnExactSpanRootCard : Claim7 := { stood := { row := fnExactSpanRootRow, standIns := [], harness := (true, "97522ddaf1f9fda71d6be9babb85afc77eddcb154ef1875e7a75356a357d2a2f"), looks := true }, kinds := [], alts := [], laidByText := true, laidKinds := [.sentinel], laidTests := true, laidLooks := .later }
def FnExactSpanRootCardSaid : Prop := Claim7.holds Tryd.pinned (.plain (OpenSpec.ofChange fnExactSpanRootSpec)) fnExactSpanRootCard

/-- THE SECOND FORM's CARD OF 'laws.FnExactSpanRoot'. -/
def fnExactSpanRootUptoCard : Claim7 := { stood := { row := fnExactSpanRootUptoRow, standIns := [], harness := (true, "97522ddaf1f9fda71d6be9babb85afc77eddcb154ef1875e7a75356a357d2a2f"), looks := true }, kinds := [], alts := [], laidByText := true, laidKinds := [.sentinel], laidTests := true, laidLooks := .later }
def FnExactSpanRootUptoCardSaid : Prop := Claim7.holds Tryd.pinned (.plain (OpenSpec.upto fnExactSpanRootSpec)) fnExactSpanRootUptoCard
end Rows
end Go.Proofs.YtpddpekenccclaxDoor
