/-
  DERIVED. GIVEN WITH THE SEED: THE CARDS: each row of YtpddpekenccclawDoorRows.lean that lists a variable, with what it lists TIED to the program's text (the seventh form; the later family's looks); each row that meets fmt, with fmt's text TOLD by the authors' own Lean function (tested against real Go, not proved from fmt's source: count such statements apart). THE CARD IS WHAT COUNTS. Prove the row's statement (the work); the ties are given (YtpddpekenccclawDoorTie.lean); close each card by the builder's one call (the guide's Derived/Test/ToyasCard.lean, 'card_holds'). Laid BY PROGRAM, IN A SANDBOX (cutbox-door.mjs). By AI agents, Wed Nov 11 2026. No macro, syntax, notation, axiom, sorry.
-/
import Derived.Test.YtpddpekenccclawDoorRows
import GoSem.ClaimSeven
namespace Go.Proofs.YtpddpekenccclawDoor
namespace Rows

/-- THE TIED CARD OF 'laws.FnExactSpanMeet'. -/
def fnExactSpanMeetCard : Claim7 := { stood := { row := fnExactSpanMeetRow, standIns := [], harness := (true, "5d766e8dcfb9d9c69539960eefea5aa80395a4539bd47c8967af51c8b3780d6f"), looks := true }, kinds := [], alts := [], laidByText := true, laidKinds := [.sentinel], laidTests := true, laidLooks := .later }
def FnExactSpanMeetCardSaid : Prop := Claim7.holds Tryd.pinned (.plain (OpenSpec.ofChange fnExactSpanMeetSpec)) fnExactSpanMeetCard

/-- THE TIED CARD OF 'laws.FnExactSpanNeg'. -/
def fnExactSpanNegCard : Claim7 := { stood := { row := fnExactSpanNegRow, standIns := [], harness := (true, "5d766e8dcfb9d9c69539960eefea5aa80395a4539bd47c8967af51c8b3780d6f"), looks := true }, kinds := [], alts := [], laidByText := true, laidKinds := [.sentinel], laidTests := true, laidLooks := .later }
def FnExactSpanNegCardSaid : Prop := Claim7.holds Tryd.pinned (.plain (OpenSpec.ofChange fnExactSpanNegSpec)) fnExactSpanNegCard

/-- THE TIED CARD OF 'laws.FnExactSpanAdd'. -/
def fnExactSpanAddCard : Claim7 := { stood := { row := fnExactSpanAddRow, standIns := [], harness := (true, "5d766e8dcfb9d9c69539960eefea5aa80395a4539bd47c8967af51c8b3780d6f"), looks := true }, kinds := [], alts := [], laidByText := true, laidKinds := [.sentinel], laidTests := true, laidLooks := .later }
def FnExactSpanAddCardSaid : Prop := Claim7.holds Tryd.pinned (.plain (OpenSpec.ofChange fnExactSpanAddSpec)) fnExactSpanAddCard

/-- THE TIED CARD OF 'laws.FnExactSpanSub'. -/
def fnExactSpanSubCard : Claim7 := { stood := { row := fnExactSpanSubRow, standIns := [], harness := (true, "5d766e8dcfb9d9c69539960eefea5aa80395a4539bd47c8967af51c8b3780d6f"), looks := true }, kinds := [], alts := [], laidByText := true, laidKinds := [.sentinel], laidTests := true, laidLooks := .later }
def FnExactSpanSubCardSaid : Prop := Claim7.holds Tryd.pinned (.plain (OpenSpec.ofChange fnExactSpanSubSpec)) fnExactSpanSubCard

/-- THE TIED CARD OF 'laws.FnExactSpanMul'. -/
def fnExactSpanMulCard : Claim7 := { stood := { row := fnExactSpanMulRow, standIns := [], harness := (true, "5d766e8dcfb9d9c69539960eefea5aa80395a4539bd47c8967af51c8b3780d6f"), looks := true }, kinds := [], alts := [], laidByText := true, laidKinds := [.sentinel], laidTests := true, laidLooks := .later }
def FnExactSpanMulCardSaid : Prop := Claim7.holds Tryd.pinned (.plain (OpenSpec.ofChange fnExactSpanMulSpec)) fnExactSpanMulCard

/-- THE TIED CARD OF 'laws.FnExactSpanDiv'. -/
def fnExactSpanDivCard : Claim7 := { stood := { row := fnExactSpanDivRow, standIns := [], harness := (true, "5d766e8dcfb9d9c69539960eefea5aa80395a4539bd47c8967af51c8b3780d6f"), looks := true }, kinds := [], alts := [], laidByText := true, laidKinds := [.sentinel], laidTests := true, laidLooks := .later }
def FnExactSpanDivCardSaid : Prop := Claim7.holds Tryd.pinned (.plain (OpenSpec.ofChange fnExactSpanDivSpec)) fnExactSpanDivCard

/-- THE SECOND FORM's CARD OF 'laws.FnExactSpanMeet'. -/
def fnExactSpanMeetUptoCard : Claim7 := { stood := { row := fnExactSpanMeetUptoRow, standIns := [], harness := (true, "5d766e8dcfb9d9c69539960eefea5aa80395a4539bd47c8967af51c8b3780d6f"), looks := true }, kinds := [], alts := [], laidByText := true, laidKinds := [.sentinel], laidTests := true, laidLooks := .later }
def FnExactSpanMeetUptoCardSaid : Prop := Claim7.holds Tryd.pinned (.plain (OpenSpec.upto fnExactSpanMeetSpec)) fnExactSpanMeetUptoCard

/-- THE SECOND FORM's CARD OF 'laws.FnExactSpanNeg'. -/
def fnExactSpanNegUptoCard : Claim7 := { stood := { row := fnExactSpanNegUptoRow, standIns := [], harness := (true, "5d766e8dcfb9d9c69539960eefea5aa80395a4539bd47c8967af51c8b3780d6f"), looks := true }, kinds := [], alts := [], laidByText := true, laidKinds := [.sentinel], laidTests := true, laidLooks := .later }
def FnExactSpanNegUptoCardSaid : Prop := Claim7.holds Tryd.pinned (.plain (OpenSpec.upto fnExactSpanNegSpec)) fnExactSpanNegUptoCard

/-- THE SECOND FORM's CARD OF 'laws.FnExactSpanAdd'. -/
def fnExactSpanAddUptoCard : Claim7 := { stood := { row := fnExactSpanAddUptoRow, standIns := [], harness := (true, "5d766e8dcfb9d9c69539960eefea5aa80395a4539bd47c8967af51c8b3780d6f"), looks := true }, kinds := [], alts := [], laidByText := true, laidKinds := [.sentinel], laidTests := true, laidLooks := .later }
def FnExactSpanAddUptoCardSaid : Prop := Claim7.holds Tryd.pinned (.plain (OpenSpec.upto fnExactSpanAddSpec)) fnExactSpanAddUptoCard

/-- THE SECOND FORM's CARD OF 'laws.FnExactSpanSub'. -/
def fnExactSpanSubUptoCard : Claim7 := { stood := { row := fnExactSpanSubUptoRow, standIns := [], harness := (true, "5d766e8dcfb9d9c69539960eefea5aa80395a4539bd47c8967af51c8b3780d6f"), looks := true }, kinds := [], alts := [], laidByText := true, laidKinds := [.sentinel], laidTests := true, laidLooks := .later }
def FnExactSpanSubUptoCardSaid : Prop := Claim7.holds Tryd.pinned (.plain (OpenSpec.upto fnExactSpanSubSpec)) fnExactSpanSubUptoCard

/-- THE SECOND FORM's CARD OF 'laws.FnExactSpanMul'. -/
def fnExactSpanMulUptoCard : Claim7 := { stood := { row := fnExactSpanMulUptoRow, standIns := [], harness := (true, "5d766e8dcfb9d9c69539960eefea5aa80395a4539bd47c8967af51c8b3780d6f"), looks := true }, kinds := [], alts := [], laidByText := true, laidKinds := [.sentinel], laidTests := true, laidLooks := .later }
def FnExactSpanMulUptoCardSaid : Prop := Claim7.holds Tryd.pinned (.plain (OpenSpec.upto fnExactSpanMulSpec)) fnExactSpanMulUptoCard

/-- THE SECOND FORM's CARD OF 'laws.FnExactSpanDiv'. -/
def fnExactSpanDivUptoCard : Claim7 := { stood := { row := fnExactSpanDivUptoRow, standIns := [], harness := (true, "5d766e8dcfb9d9c69539960eefea5aa80395a4539bd47c8967af51c8b3780d6f"), looks := true }, kinds := [], alts := [], laidByText := true, laidKinds := [.sentinel], laidTests := true, laidLooks := .later }
def FnExactSpanDivUptoCardSaid : Prop := Claim7.holds Tryd.pinned (.plain (OpenSpec.upto fnExactSpanDivSpec)) fnExactSpanDivUptoCard
end Rows
end Go.Proofs.YtpddpekenccclawDoor
