/-
  DERIVED. GIVEN WITH THE SEED: THE CARDS: each row of YthefibnjaoimgagDoorRows.lean that lists a variable, with what it lists TIED to the program's text (the seventh form; the later family's looks); each row that meets fmt, with fmt's text TOLD by the authors' own Lean function (tested against real Go, not proved from fmt's source: count such statements apart). THE CARD IS WHAT COUNTS. Prove the row's statement (the work); the ties are given (YthefibnjaoimgagDoorTie.lean); close each card by the builder's one call (the guide's Derived/Test/ToyasCard.lean, 'card_holds'). Laid BY PROGRAM, IN A SANDBOX (cutbox-door.mjs). By AI agents, Wed Nov 11 2026. No macro, syntax, notation, axiom, sorry.
-/
import Derived.Test.YthefibnjaoimgagDoorRows
import GoSem.ClaimSeven
namespace Go.Proofs.YthefibnjaoimgagDoor
namespace Rows

/-- THE TIED CARD OF 'laws.FnSpanOfMore'. -/
def fnSpanOfMoreCard : Claim7 := { stood := { row := fnSpanOfMoreRow, standIns := [], harness := (true, "211e1d01a0379595991df1326769befe5455f6d24f5f70e851cb73ec85bf62d8"), looks := true }, kinds := [], alts := [], laidByText := true, laidKinds := [.sentinel], laidTests := true, laidLooks := .later }
def FnSpanOfMoreCardSaid : Prop := Claim7.holds Tryd.pinned (.plain (OpenSpec.ofChange fnSpanOfMoreSpec)) fnSpanOfMoreCard

/-- THE TIED CARD OF 'laws.FnSineOf'. -/
def fnSineOfCard : Claim7 := { stood := { row := fnSineOfRow, standIns := [], harness := (true, "211e1d01a0379595991df1326769befe5455f6d24f5f70e851cb73ec85bf62d8"), looks := true }, kinds := [], alts := [], laidByText := true, laidKinds := [.sentinel], laidTests := true, laidLooks := .later }
def FnSineOfCardSaid : Prop := Claim7.holds Tryd.pinned (.plain (OpenSpec.ofChange fnSineOfSpec)) fnSineOfCard

/-- THE SECOND FORM's CARD OF 'laws.FnSpanOfMore'. -/
def fnSpanOfMoreUptoCard : Claim7 := { stood := { row := fnSpanOfMoreUptoRow, standIns := [], harness := (true, "211e1d01a0379595991df1326769befe5455f6d24f5f70e851cb73ec85bf62d8"), looks := true }, kinds := [], alts := [], laidByText := true, laidKinds := [.sentinel], laidTests := true, laidLooks := .later }
def FnSpanOfMoreUptoCardSaid : Prop := Claim7.holds Tryd.pinned (.plain (OpenSpec.upto fnSpanOfMoreSpec)) fnSpanOfMoreUptoCard

/-- THE SECOND FORM's CARD OF 'laws.FnSineOf'. -/
def fnSineOfUptoCard : Claim7 := { stood := { row := fnSineOfUptoRow, standIns := [], harness := (true, "211e1d01a0379595991df1326769befe5455f6d24f5f70e851cb73ec85bf62d8"), looks := true }, kinds := [], alts := [], laidByText := true, laidKinds := [.sentinel], laidTests := true, laidLooks := .later }
def FnSineOfUptoCardSaid : Prop := Claim7.holds Tryd.pinned (.plain (OpenSpec.upto fnSineOfSpec)) fnSineOfUptoCard
end Rows
end Go.Proofs.YthefibnjaoimgagDoor
