/-
  DERIVED. GIVEN WITH THE SEED: THE CARDS: each row of YtldogjldnckdmacDoorRows.lean that lists a variable, with what it lists TIED to the program's text (the seventh form; the later family's looks); each row that meets fmt, with fmt's text TOLD by the authors' own Lean function (tested against real Go, not proved from fmt's source: count such statements apart). THE CARD IS WHAT COUNTS. Prove the row's statement (the work); the ties are given (YtldogjldnckdmacDoorTie.lean); close each card by the builder's one call (the guide's Derived/Test/ToyasCard.lean, 'card_holds'). Laid BY PROGRAM, IN A SANDBOX (cutbox-door.mjs). By AI agents, Wed Nov 11 2026. No macro, syntax, notation, axiom, sorry.
-/
import Derived.Test.YtldogjldnckdmacDoorRows
import GoSem.ClaimSeven
namespace Go.Proofs.YtldogjldnckdmacDoor
namespace Rows

/-- THE TIED CARD OF 'laws.FnSpanHull'. -/
def fnSpanHullCard : Claim7 := { stood := { row := fnSpanHullRow, standIns := [], harness := (true, "aaff1edaf2a738d2d319faf2193250a7e084bc1497374b82c6a1db4590d74487"), looks := true }, kinds := [], alts := [], laidByText := true, laidKinds := [.sentinel], laidTests := true, laidLooks := .later }
def FnSpanHullCardSaid : Prop := Claim7.holds Tryd.pinned (.plain (OpenSpec.ofChange fnSpanHullSpec)) fnSpanHullCard

/-- THE TIED CARD OF 'laws.FnSpanMeet'. -/
def fnSpanMeetCard : Claim7 := { stood := { row := fnSpanMeetRow, standIns := [], harness := (true, "aaff1edaf2a738d2d319faf2193250a7e084bc1497374b82c6a1db4590d74487"), looks := true }, kinds := [], alts := [], laidByText := true, laidKinds := [.sentinel], laidTests := true, laidLooks := .later }
def FnSpanMeetCardSaid : Prop := Claim7.holds Tryd.pinned (.plain (OpenSpec.ofChange fnSpanMeetSpec)) fnSpanMeetCard

/-- THE TIED CARD OF 'laws.FnSpanNeg'. -/
def fnSpanNegCard : Claim7 := { stood := { row := fnSpanNegRow, standIns := [], harness := (true, "aaff1edaf2a738d2d319faf2193250a7e084bc1497374b82c6a1db4590d74487"), looks := true }, kinds := [], alts := [], laidByText := true, laidKinds := [.sentinel], laidTests := true, laidLooks := .later }
def FnSpanNegCardSaid : Prop := Claim7.holds Tryd.pinned (.plain (OpenSpec.ofChange fnSpanNegSpec)) fnSpanNegCard

/-- THE TIED CARD OF 'laws.FnSpanAdd'. -/
def fnSpanAddCard : Claim7 := { stood := { row := fnSpanAddRow, standIns := [], harness := (true, "aaff1edaf2a738d2d319faf2193250a7e084bc1497374b82c6a1db4590d74487"), looks := true }, kinds := [], alts := [], laidByText := true, laidKinds := [.sentinel], laidTests := true, laidLooks := .later }
def FnSpanAddCardSaid : Prop := Claim7.holds Tryd.pinned (.plain (OpenSpec.ofChange fnSpanAddSpec)) fnSpanAddCard

/-- THE TIED CARD OF 'laws.FnSpanSub'. -/
def fnSpanSubCard : Claim7 := { stood := { row := fnSpanSubRow, standIns := [], harness := (true, "aaff1edaf2a738d2d319faf2193250a7e084bc1497374b82c6a1db4590d74487"), looks := true }, kinds := [], alts := [], laidByText := true, laidKinds := [.sentinel], laidTests := true, laidLooks := .later }
def FnSpanSubCardSaid : Prop := Claim7.holds Tryd.pinned (.plain (OpenSpec.ofChange fnSpanSubSpec)) fnSpanSubCard

/-- THE TIED CARD OF 'laws.FnSpanMul'. -/
def fnSpanMulCard : Claim7 := { stood := { row := fnSpanMulRow, standIns := [], harness := (true, "aaff1edaf2a738d2d319faf2193250a7e084bc1497374b82c6a1db4590d74487"), looks := true }, kinds := [], alts := [], laidByText := true, laidKinds := [.sentinel], laidTests := true, laidLooks := .later }
def FnSpanMulCardSaid : Prop := Claim7.holds Tryd.pinned (.plain (OpenSpec.ofChange fnSpanMulSpec)) fnSpanMulCard

/-- THE SECOND FORM's CARD OF 'laws.FnSpanHull'. -/
def fnSpanHullUptoCard : Claim7 := { stood := { row := fnSpanHullUptoRow, standIns := [], harness := (true, "aaff1edaf2a738d2d319faf2193250a7e084bc1497374b82c6a1db4590d74487"), looks := true }, kinds := [], alts := [], laidByText := true, laidKinds := [.sentinel], laidTests := true, laidLooks := .later }
def FnSpanHullUptoCardSaid : Prop := Claim7.holds Tryd.pinned (.plain (OpenSpec.upto fnSpanHullSpec)) fnSpanHullUptoCard

/-- THE SECOND FORM's CARD OF 'laws.FnSpanMeet'. -/
def fnSpanMeetUptoCard : Claim7 := { stood := { row := fnSpanMeetUptoRow, standIns := [], harness := (true, "aaff1edaf2a738d2d319faf2193250a7e084bc1497374b82c6a1db4590d74487"), looks := true }, kinds := [], alts := [], laidByText := true, laidKinds := [.sentinel], laidTests := true, laidLooks := .later }
def FnSpanMeetUptoCardSaid : Prop := Claim7.holds Tryd.pinned (.plain (OpenSpec.upto fnSpanMeetSpec)) fnSpanMeetUptoCard

/-- THE SECOND FORM's CARD OF 'laws.FnSpanNeg'. -/
def fnSpanNegUptoCard : Claim7 := { stood := { row := fnSpanNegUptoRow, standIns := [], harness := (true, "aaff1edaf2a738d2d319faf2193250a7e084bc1497374b82c6a1db4590d74487"), looks := true }, kinds := [], alts := [], laidByText := true, laidKinds := [.sentinel], laidTests := true, laidLooks := .later }
def FnSpanNegUptoCardSaid : Prop := Claim7.holds Tryd.pinned (.plain (OpenSpec.upto fnSpanNegSpec)) fnSpanNegUptoCard

/-- THE SECOND FORM's CARD OF 'laws.FnSpanAdd'. -/
def fnSpanAddUptoCard : Claim7 := { stood := { row := fnSpanAddUptoRow, standIns := [], harness := (true, "aaff1edaf2a738d2d319faf2193250a7e084bc1497374b82c6a1db4590d74487"), looks := true }, kinds := [], alts := [], laidByText := true, laidKinds := [.sentinel], laidTests := true, laidLooks := .later }
def FnSpanAddUptoCardSaid : Prop := Claim7.holds Tryd.pinned (.plain (OpenSpec.upto fnSpanAddSpec)) fnSpanAddUptoCard

/-- THE SECOND FORM's CARD OF 'laws.FnSpanSub'. -/
def fnSpanSubUptoCard : Claim7 := { stood := { row := fnSpanSubUptoRow, standIns := [], harness := (true, "aaff1edaf2a738d2d319faf2193250a7e084bc1497374b82c6a1db4590d74487"), looks := true }, kinds := [], alts := [], laidByText := true, laidKinds := [.sentinel], laidTests := true, laidLooks := .later }
def FnSpanSubUptoCardSaid : Prop := Claim7.holds Tryd.pinned (.plain (OpenSpec.upto fnSpanSubSpec)) fnSpanSubUptoCard

/-- THE SECOND FORM's CARD OF 'laws.FnSpanMul'. -/
def fnSpanMulUptoCard : Claim7 := { stood := { row := fnSpanMulUptoRow, standIns := [], harness := (true, "aaff1edaf2a738d2d319faf2193250a7e084bc1497374b82c6a1db4590d74487"), looks := true }, kinds := [], alts := [], laidByText := true, laidKinds := [.sentinel], laidTests := true, laidLooks := .later }
def FnSpanMulUptoCardSaid : Prop := Claim7.holds Tryd.pinned (.plain (OpenSpec.upto fnSpanMulSpec)) fnSpanMulUptoCard
end Rows
end Go.Proofs.YtldogjldnckdmacDoor
