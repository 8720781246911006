/-
  DERIVED. GIVEN WITH THE SEED: THE CARDS: each row of YthefibnjaoimgaiDoorRows.lean that lists a variable, with what it lists TIED to the program's text (the seventh form; the later family's looks); each row that meets fmt, with fmt's text TOLD by the authors' own Lean function (tested against real Go, not proved from fmt's source: count such statements apart). THE CARD IS WHAT COUNTS. Prove the row's statement (the work); the ties are given (YthefibnjaoimgaiDoorTie.lean); close each card by the builder's one call (the guide's Derived/Test/ToyasCard.lean, 'card_holds'). Laid BY PROGRAM, IN A SANDBOX (cutbox-door.mjs). By AI agents, Wed Nov 11 2026. No macro, syntax, notation, axiom, sorry.
-/
import Derived.Test.YthefibnjaoimgaiDoorRows
import GoSem.ClaimSeven
namespace Go.Proofs.YthefibnjaoimgaiDoor
namespace Rows

/-- THE TIED CARD OF 'laws.FnCosSum'. -/
def fnCosSumCard : Claim7 := { stood := { row := fnCosSumRow, standIns := [], harness := (true, "732d3c6376ccd2ddd1c14f3d1a92db0f3dc96bc9eb7200a0b2ab9146b4277bd9"), looks := true }, kinds := [], alts := [], laidByText := true, laidKinds := [.sentinel], laidTests := true, laidLooks := .later }
def FnCosSumCardSaid : Prop := Claim7.holds Tryd.pinned (.plain (OpenSpec.ofChange fnCosSumSpec)) fnCosSumCard

/-- THE TIED CARD OF 'laws.FnHalfOf'. -/
def fnHalfOfCard : Claim7 := { stood := { row := fnHalfOfRow, standIns := [], harness := (true, "732d3c6376ccd2ddd1c14f3d1a92db0f3dc96bc9eb7200a0b2ab9146b4277bd9"), looks := true }, kinds := [], alts := [], laidByText := true, laidKinds := [.sentinel], laidTests := true, laidLooks := .later }
def FnHalfOfCardSaid : Prop := Claim7.holds Tryd.pinned (.plain (OpenSpec.ofChange fnHalfOfSpec)) fnHalfOfCard

/-- THE TIED CARD OF 'laws.FnTanOf'. -/
def fnTanOfCard : Claim7 := { stood := { row := fnTanOfRow, standIns := [], harness := (true, "732d3c6376ccd2ddd1c14f3d1a92db0f3dc96bc9eb7200a0b2ab9146b4277bd9"), looks := true }, kinds := [], alts := [], laidByText := true, laidKinds := [.sentinel], laidTests := true, laidLooks := .later }
def FnTanOfCardSaid : Prop := Claim7.holds Tryd.pinned (.plain (OpenSpec.ofChange fnTanOfSpec)) fnTanOfCard

/-- THE TIED CARD OF 'laws.FnTanTurn'. -/
def fnTanTurnCard : Claim7 := { stood := { row := fnTanTurnRow, standIns := [], harness := (true, "732d3c6376ccd2ddd1c14f3d1a92db0f3dc96bc9eb7200a0b2ab9146b4277bd9"), looks := true }, kinds := [], alts := [], laidByText := true, laidKinds := [.sentinel], laidTests := true, laidLooks := .later }
def FnTanTurnCardSaid : Prop := Claim7.holds Tryd.pinned (.plain (OpenSpec.ofChange fnTanTurnSpec)) fnTanTurnCard

/-- THE TIED CARD OF 'laws.FnArcOf'. -/
def fnArcOfCard : Claim7 := { stood := { row := fnArcOfRow, standIns := [], harness := (true, "732d3c6376ccd2ddd1c14f3d1a92db0f3dc96bc9eb7200a0b2ab9146b4277bd9"), looks := true }, kinds := [], alts := [], laidByText := true, laidKinds := [.sentinel], laidTests := true, laidLooks := .later }
def FnArcOfCardSaid : Prop := Claim7.holds Tryd.pinned (.plain (OpenSpec.ofChange fnArcOfSpec)) fnArcOfCard

/-- THE SECOND FORM's CARD OF 'laws.FnCosSum'. -/
def fnCosSumUptoCard : Claim7 := { stood := { row := fnCosSumUptoRow, standIns := [], harness := (true, "732d3c6376ccd2ddd1c14f3d1a92db0f3dc96bc9eb7200a0b2ab9146b4277bd9"), looks := true }, kinds := [], alts := [], laidByText := true, laidKinds := [.sentinel], laidTests := true, laidLooks := .later }
def FnCosSumUptoCardSaid : Prop := Claim7.holds Tryd.pinned (.plain (OpenSpec.upto fnCosSumSpec)) fnCosSumUptoCard

/-- THE SECOND FORM's CARD OF 'laws.FnHalfOf'. -/
def fnHalfOfUptoCard : Claim7 := { stood := { row := fnHalfOfUptoRow, standIns := [], harness := (true, "732d3c6376ccd2ddd1c14f3d1a92db0f3dc96bc9eb7200a0b2ab9146b4277bd9"), looks := true }, kinds := [], alts := [], laidByText := true, laidKinds := [.sentinel], laidTests := true, laidLooks := .later }
def FnHalfOfUptoCardSaid : Prop := Claim7.holds Tryd.pinned (.plain (OpenSpec.upto fnHalfOfSpec)) fnHalfOfUptoCard

/-- THE SECOND FORM's CARD OF 'laws.FnTanOf'. -/
def fnTanOfUptoCard : Claim7 := { stood := { row := fnTanOfUptoRow, standIns := [], harness := (true, "732d3c6376ccd2ddd1c14f3d1a92db0f3dc96bc9eb7200a0b2ab9146b4277bd9"), looks := true }, kinds := [], alts := [], laidByText := true, laidKinds := [.sentinel], laidTests := true, laidLooks := .later }
def FnTanOfUptoCardSaid : Prop := Claim7.holds Tryd.pinned (.plain (OpenSpec.upto fnTanOfSpec)) fnTanOfUptoCard

/-- THE SECOND FORM's CARD OF 'laws.FnTanTurn'. -/
def fnTanTurnUptoCard : Claim7 := { stood := { row := fnTanTurnUptoRow, standIns := [], harness := (true, "732d3c6376ccd2ddd1c14f3d1a92db0f3dc96bc9eb7200a0b2ab9146b4277bd9"), looks := true }, kinds := [], alts := [], laidByText := true, laidKinds := [.sentinel], laidTests := true, laidLooks := .later }
def FnTanTurnUptoCardSaid : Prop := Claim7.holds Tryd.pinned (.plain (OpenSpec.upto fnTanTurnSpec)) fnTanTurnUptoCard

/-- THE SECOND FORM's CARD OF 'laws.FnArcOf'. -/
def fnArcOfUptoCard : Claim7 := { stood := { row := fnArcOfUptoRow, standIns := [], harness := (true, "732d3c6376ccd2ddd1c14f3d1a92db0f3dc96bc9eb7200a0b2ab9146b4277bd9"), looks := true }, kinds := [], alts := [], laidByText := true, laidKinds := [.sentinel], laidTests := true, laidLooks := .later }
def FnArcOfUptoCardSaid : Prop := Claim7.holds Tryd.pinned (.plain (OpenSpec.upto fnArcOfSpec)) fnArcOfUptoCard
end Rows
end Go.Proofs.YthefibnjaoimgaiDoor
