/-
  DERIVED. GIVEN WITH THE SEED: THE CARDS: each row of YtpddpekencccladDoorRows.lean that lists a variable, with what it lists TIED to the program's text (the seventh form; the later family's looks); each row that meets fmt, with fmt's text TOLD by the authors' own Lean function (tested against real Go, not proved from fmt's source: count such statements apart). THE CARD IS WHAT COUNTS. Prove the row's statement (the work); the ties are given (YtpddpekencccladDoorTie.lean); close each card by the builder's one call (the guide's Derived/Test/ToyasCard.lean, 'card_holds'). Laid BY PROGRAM, IN A SANDBOX (cutbox-door.mjs). By AI agents, Wed Nov 11 2026. No macro, syntax, notation, axiom, sorry.
-/
import Derived.Test.YtpddpekencccladDoorRows
import GoSem.ClaimSeven
namespace Go.Proofs.YtpddpekencccladDoor
namespace Rows

/-- THE TIED CARD OF 'laws.FnSpanMulNeg'. -/
def fnSpanMulNegCard : Claim7 := { stood := { row := fnSpanMulNegRow, standIns := [], harness := (true, "3642b3aa7cbafb1deef2699ddac52b84c5e094d1bd025be58983aef327e75fe5"), looks := true }, kinds := [], alts := [], laidByText := true, laidKinds := [.sentinel], laidTests := true, laidLooks := .later }
def FnSpanMulNegCardSaid : Prop := Claim7.holds Tryd.pinned (.plain (OpenSpec.ofChange fnSpanMulNegSpec)) fnSpanMulNegCard

/-- THE TIED CARD OF 'laws.FnSpanMulIn'. -/
def fnSpanMulInCard : Claim7 := { stood := { row := fnSpanMulInRow, standIns := [], harness := (true, "3642b3aa7cbafb1deef2699ddac52b84c5e094d1bd025be58983aef327e75fe5"), looks := true }, kinds := [], alts := [], laidByText := true, laidKinds := [.sentinel], laidTests := true, laidLooks := .later }
def FnSpanMulInCardSaid : Prop := Claim7.holds Tryd.pinned (.plain (OpenSpec.ofChange fnSpanMulInSpec)) fnSpanMulInCard

/-- THE TIED CARD OF 'laws.FnSpanDiv'. -/
def fnSpanDivCard : Claim7 := { stood := { row := fnSpanDivRow, standIns := [], harness := (true, "3642b3aa7cbafb1deef2699ddac52b84c5e094d1bd025be58983aef327e75fe5"), looks := true }, kinds := [], alts := [], laidByText := true, laidKinds := [.sentinel], laidTests := true, laidLooks := .later }
def FnSpanDivCardSaid : Prop := Claim7.holds Tryd.pinned (.plain (OpenSpec.ofChange fnSpanDivSpec)) fnSpanDivCard

/-- THE TIED CARD OF 'laws.FnSpanDivNone'. -/
def fnSpanDivNoneCard : Claim7 := { stood := { row := fnSpanDivNoneRow, standIns := [], harness := (true, "3642b3aa7cbafb1deef2699ddac52b84c5e094d1bd025be58983aef327e75fe5"), looks := true }, kinds := [], alts := [], laidByText := true, laidKinds := [.sentinel], laidTests := true, laidLooks := .later }
def FnSpanDivNoneCardSaid : Prop := Claim7.holds Tryd.pinned (.plain (OpenSpec.ofChange fnSpanDivNoneSpec)) fnSpanDivNoneCard

/-- THE TIED CARD OF 'laws.FnSpanDivBack'. -/
def fnSpanDivBackCard : Claim7 := { stood := { row := fnSpanDivBackRow, standIns := [], harness := (true, "3642b3aa7cbafb1deef2699ddac52b84c5e094d1bd025be58983aef327e75fe5"), looks := true }, kinds := [], alts := [], laidByText := true, laidKinds := [.sentinel], laidTests := true, laidLooks := .later }
def FnSpanDivBackCardSaid : Prop := Claim7.holds Tryd.pinned (.plain (OpenSpec.ofChange fnSpanDivBackSpec)) fnSpanDivBackCard

/-- THE TIED CARD OF 'laws.FnSpanRoot'. -/
def fnSpanRootCard : Claim7 := { stood := { row := fnSpanRootRow, standIns := [], harness := (true, "3642b3aa7cbafb1deef2699ddac52b84c5e094d1bd025be58983aef327e75fe5"), looks := true }, kinds := [], alts := [], laidByText := true, laidKinds := [.sentinel], laidTests := true, laidLooks := .later }
def FnSpanRootCardSaid : Prop := Claim7.holds Tryd.pinned (.plain (OpenSpec.ofChange fnSpanRootSpec)) fnSpanRootCard

/-- THE SECOND FORM's CARD OF 'laws.FnSpanMulNeg'. -/
def fnSpanMulNegUptoCard : Claim7 := { stood := { row := fnSpanMulNegUptoRow, standIns := [], harness := (true, "3642b3aa7cbafb1deef2699ddac52b84c5e094d1bd025be58983aef327e75fe5"), looks := true }, kinds := [], alts := [], laidByText := true, laidKinds := [.sentinel], laidTests := true, laidLooks := .later }
def FnSpanMulNegUptoCardSaid : Prop := Claim7.holds Tryd.pinned (.plain (OpenSpec.upto fnSpanMulNegSpec)) fnSpanMulNegUptoCard

/-- THE SECOND FORM's CARD OF 'laws.FnSpanMulIn'. -/
def fnSpanMulInUptoCard : Claim7 := { stood := { row := fnSpanMulInUptoRow, standIns := [], harness := (true, "3642b3aa7cbafb1deef2699ddac52b84c5e094d1bd025be58983aef327e75fe5"), looks := true }, kinds := [], alts := [], laidByText := true, laidKinds := [.sentinel], laidTests := true, laidLooks := .later }
def FnSpanMulInUptoCardSaid : Prop := Claim7.holds Tryd.pinned (.plain (OpenSpec.upto fnSpanMulInSpec)) fnSpanMulInUptoCard

/-- THE SECOND FORM's CARD OF 'laws.FnSpanDiv'. -/
def fnSpanDivUptoCard : Claim7 := { stood := { row := fnSpanDivUptoRow, standIns := [], harness := (true, "3642b3aa7cbafb1deef2699ddac52b84c5e094d1bd025be58983aef327e75fe5"), looks := true }, kinds := [], alts := [], laidByText := true, laidKinds := [.sentinel], laidTests := true, laidLooks := .later }
def FnSpanDivUptoCardSaid : Prop := Claim7.holds Tryd.pinned (.plain (OpenSpec.upto fnSpanDivSpec)) fnSpanDivUptoCard

/-- THE SECOND FORM's CARD OF 'laws.FnSpanDivNone'. -/
def fnSpanDivNoneUptoCard : Claim7 := { stood := { row := fnSpanDivNoneUptoRow, standIns := [], harness := (true, "3642b3aa7cbafb1deef2699ddac52b84c5e094d1bd025be58983aef327e75fe5"), looks := true }, kinds := [], alts := [], laidByText := true, laidKinds := [.sentinel], laidTests := true, laidLooks := .later }
def FnSpanDivNoneUptoCardSaid : Prop := Claim7.holds Tryd.pinned (.plain (OpenSpec.upto fnSpanDivNoneSpec)) fnSpanDivNoneUptoCard

/-- THE SECOND FORM's CARD OF 'laws.FnSpanDivBack'. -/
def fnSpanDivBackUptoCard : Claim7 := { stood := { row := fnSpanDivBackUptoRow, standIns := [], harness := (true, "3642b3aa7cbafb1deef2699ddac52b84c5e094d1bd025be58983aef327e75fe5"), looks := true }, kinds := [], alts := [], laidByText := true, laidKinds := [.sentinel], laidTests := true, laidLooks := .later }
def FnSpanDivBackUptoCardSaid : Prop := Claim7.holds Tryd.pinned (.plain (OpenSpec.upto fnSpanDivBackSpec)) fnSpanDivBackUptoCard

/-- THE SECOND FORM's CARD OF 'laws.FnSpanRoot'. -/
def fnSpanRootUptoCard : Claim7 := { stood := { row := fnSpanRootUptoRow, standIns := [], harness := (true, "3642b3aa7cbafb1deef2699ddac52b84c5e094d1bd025be58983aef327e75fe5"), looks := true }, kinds := [], alts := [], laidByText := true, laidKinds := [.sentinel], laidTests := true, laidLooks := .later }
def FnSpanRootUptoCardSaid : Prop := Claim7.holds Tryd.pinned (.plain (OpenSpec.upto fnSpanRootSpec)) fnSpanRootUptoCard
end Rows
end Go.Proofs.YtpddpekencccladDoor
