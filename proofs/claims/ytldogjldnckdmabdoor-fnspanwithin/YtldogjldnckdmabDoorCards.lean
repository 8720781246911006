/-
  DERIVED. GIVEN WITH THE SEED: THE CARDS: each row of YtldogjldnckdmabDoorRows.lean that lists a variable, with what it lists TIED to the program's text (the seventh form; the later family's looks); each row that meets fmt, with fmt's text TOLD by the authors' own Lean function (tested against real Go, not proved from fmt's source: count such statements apart). THE CARD IS WHAT COUNTS. Prove the row's statement (the work); the ties are given (YtldogjldnckdmabDoorTie.lean); close each card by the builder's one call (the guide's Derived/Test/ToyasCard.lean, 'card_holds'). Laid BY PROGRAM, IN A SANDBOX (cutbox-door.mjs). By AI agents, Wed Nov 11 2026. No macro, syntax, notation, axiom, sorry.
-/
import Derived.Test.YtldogjldnckdmabDoorRows
import GoSem.ClaimSeven
namespace Go.Proofs.YtldogjldnckdmabDoor
namespace Rows

/-- THE TIED CARD OF 'laws.FnSpanOf'. -/
def fnSpanOfCard : Claim7 := { stood := { row := fnSpanOfRow, standIns := [], harness := (true, "c3319aa8ab4074456ac5da1f299090e767dfc8b85f2a9a43c05c045836ba92f9"), looks := true }, kinds := [], alts := [], laidByText := true, laidKinds := [.sentinel], laidTests := true, laidLooks := .later }
def FnSpanOfCardSaid : Prop := Claim7.holds Tryd.pinned (.plain (OpenSpec.ofChange fnSpanOfSpec)) fnSpanOfCard

/-- THE TIED CARD OF 'laws.FnSpanHas'. -/
def fnSpanHasCard : Claim7 := { stood := { row := fnSpanHasRow, standIns := [], harness := (true, "c3319aa8ab4074456ac5da1f299090e767dfc8b85f2a9a43c05c045836ba92f9"), looks := true }, kinds := [], alts := [], laidByText := true, laidKinds := [.sentinel], laidTests := true, laidLooks := .later }
def FnSpanHasCardSaid : Prop := Claim7.holds Tryd.pinned (.plain (OpenSpec.ofChange fnSpanHasSpec)) fnSpanHasCard

/-- THE TIED CARD OF 'laws.FnSpanWithin'. -/
def fnSpanWithinCard : Claim7 := { stood := { row := fnSpanWithinRow, standIns := [], harness := (true, "c3319aa8ab4074456ac5da1f299090e767dfc8b85f2a9a43c05c045836ba92f9"), looks := true }, kinds := [], alts := [], laidByText := true, laidKinds := [.sentinel], laidTests := true, laidLooks := .later }
def FnSpanWithinCardSaid : Prop := Claim7.holds Tryd.pinned (.plain (OpenSpec.ofChange fnSpanWithinSpec)) fnSpanWithinCard

/-- THE SECOND FORM's CARD OF 'laws.FnSpanOf'. -/
def fnSpanOfUptoCard : Claim7 := { stood := { row := fnSpanOfUptoRow, standIns := [], harness := (true, "c3319aa8ab4074456ac5da1f299090e767dfc8b85f2a9a43c05c045836ba92f9"), looks := true }, kinds := [], alts := [], laidByText := true, laidKinds := [.sentinel], laidTests := true, laidLooks := .later }
def FnSpanOfUptoCardSaid : Prop := Claim7.holds Tryd.pinned (.plain (OpenSpec.upto fnSpanOfSpec)) fnSpanOfUptoCard

/-- THE SECOND FORM's CARD OF 'laws.FnSpanHas'. -/
def fnSpanHasUptoCard : Claim7 := { stood := { row := fnSpanHasUptoRow, standIns := [], harness := (true, "c3319aa8ab4074456ac5da1f299090e767dfc8b85f2a9a43c05c045836ba92f9"), looks := true }, kinds := [], alts := [], laidByText := true, laidKinds := [.sentinel], laidTests := true, laidLooks := .later }
def FnSpanHasUptoCardSaid : Prop := Claim7.holds Tryd.pinned (.plain (OpenSpec.upto fnSpanHasSpec)) fnSpanHasUptoCard

/-- THE SECOND FORM's CARD OF 'laws.FnSpanWithin'. -/
def fnSpanWithinUptoCard : Claim7 := { stood := { row := fnSpanWithinUptoRow, standIns := [], harness := (true, "c3319aa8ab4074456ac5da1f299090e767dfc8b85f2a9a43c05c045836ba92f9"), looks := true }, kinds := [], alts := [], laidByText := true, laidKinds := [.sentinel], laidTests := true, laidLooks := .later }
def FnSpanWithinUptoCardSaid : Prop := Claim7.holds Tryd.pinned (.plain (OpenSpec.upto fnSpanWithinSpec)) fnSpanWithinUptoCard
end Rows
end Go.Proofs.YtldogjldnckdmabDoor
