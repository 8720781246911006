/-
  DERIVED. GIVEN WITH THE SEED: THE CARDS: each row of YtpddpekenccclavDoorRows.lean that lists a variable, with what it lists TIED to the program's text (the seventh form; the later family's looks); each row that meets fmt, with fmt's text TOLD by the authors' own Lean function (tested against real Go, not proved from fmt's source: count such statements apart). THE CARD IS WHAT COUNTS. Prove the row's statement (the work); the ties are given (YtpddpekenccclavDoorTie.lean); close each card by the builder's one call (the guide's Derived/Test/ToyasCard.lean, 'card_holds'). Laid BY PROGRAM, IN A SANDBOX (cutbox-door.mjs). By AI agents, Wed Nov 11 2026. No macro, syntax, notation, axiom, sorry.
-/
import Derived.Test.YtpddpekenccclavDoorRows
import GoSem.ClaimSeven
namespace Go.Proofs.YtpddpekenccclavDoor
namespace Rows

/-- THE TIED CARD OF 'laws.FnExactSpanOk'. -/
def fnExactSpanOkCard : Claim7 := { stood := { row := fnExactSpanOkRow, standIns := [], harness := (true, "344506b01ec72100c36e26faafca8e32e08148e6f2460abdc5995adc86efcef1"), looks := true }, kinds := [], alts := [], laidByText := true, laidKinds := [.sentinel], laidTests := true, laidLooks := .later }
def FnExactSpanOkCardSaid : Prop := Claim7.holds Tryd.pinned (.plain (OpenSpec.ofChange fnExactSpanOkSpec)) fnExactSpanOkCard

/-- THE TIED CARD OF 'laws.FnExactSpanOf'. -/
def fnExactSpanOfCard : Claim7 := { stood := { row := fnExactSpanOfRow, standIns := [], harness := (true, "344506b01ec72100c36e26faafca8e32e08148e6f2460abdc5995adc86efcef1"), looks := true }, kinds := [], alts := [], laidByText := true, laidKinds := [.sentinel], laidTests := true, laidLooks := .later }
def FnExactSpanOfCardSaid : Prop := Claim7.holds Tryd.pinned (.plain (OpenSpec.ofChange fnExactSpanOfSpec)) fnExactSpanOfCard

/-- THE TIED CARD OF 'laws.FnExactSpanHas'. -/
def fnExactSpanHasCard : Claim7 := { stood := { row := fnExactSpanHasRow, standIns := [], harness := (true, "344506b01ec72100c36e26faafca8e32e08148e6f2460abdc5995adc86efcef1"), looks := true }, kinds := [], alts := [], laidByText := true, laidKinds := [.sentinel], laidTests := true, laidLooks := .later }
def FnExactSpanHasCardSaid : Prop := Claim7.holds Tryd.pinned (.plain (OpenSpec.ofChange fnExactSpanHasSpec)) fnExactSpanHasCard

/-- THE TIED CARD OF 'laws.FnExactSpanWithin'. -/
def fnExactSpanWithinCard : Claim7 := { stood := { row := fnExactSpanWithinRow, standIns := [], harness := (true, "344506b01ec72100c36e26faafca8e32e08148e6f2460abdc5995adc86efcef1"), looks := true }, kinds := [], alts := [], laidByText := true, laidKinds := [.sentinel], laidTests := true, laidLooks := .later }
def FnExactSpanWithinCardSaid : Prop := Claim7.holds Tryd.pinned (.plain (OpenSpec.ofChange fnExactSpanWithinSpec)) fnExactSpanWithinCard

/-- THE TIED CARD OF 'laws.FnExactSpanHull'. -/
def fnExactSpanHullCard : Claim7 := { stood := { row := fnExactSpanHullRow, standIns := [], harness := (true, "344506b01ec72100c36e26faafca8e32e08148e6f2460abdc5995adc86efcef1"), looks := true }, kinds := [], alts := [], laidByText := true, laidKinds := [.sentinel], laidTests := true, laidLooks := .later }
def FnExactSpanHullCardSaid : Prop := Claim7.holds Tryd.pinned (.plain (OpenSpec.ofChange fnExactSpanHullSpec)) fnExactSpanHullCard

/-- THE SECOND FORM's CARD OF 'laws.FnExactSpanOk'. -/
def fnExactSpanOkUptoCard : Claim7 := { stood := { row := fnExactSpanOkUptoRow, standIns := [], harness := (true, "344506b01ec72100c36e26faafca8e32e08148e6f2460abdc5995adc86efcef1"), looks := true }, kinds := [], alts := [], laidByText := true, laidKinds := [.sentinel], laidTests := true, laidLooks := .later }
def FnExactSpanOkUptoCardSaid : Prop := Claim7.holds Tryd.pinned (.plain (OpenSpec.upto fnExactSpanOkSpec)) fnExactSpanOkUptoCard

/-- THE SECOND FORM's CARD OF 'laws.FnExactSpanOf'. -/
def fnExactSpanOfUptoCard : Claim7 := { stood := { row := fnExactSpanOfUptoRow, standIns := [], harness := (true, "344506b01ec72100c36e26faafca8e32e08148e6f2460abdc5995adc86efcef1"), looks := true }, kinds := [], alts := [], laidByText := true, laidKinds := [.sentinel], laidTests := true, laidLooks := .later }
def FnExactSpanOfUptoCardSaid : Prop := Claim7.holds Tryd.pinned (.plain (OpenSpec.upto fnExactSpanOfSpec)) fnExactSpanOfUptoCard

/-- THE SECOND FORM's CARD OF 'laws.FnExactSpanHas'. -/
def fnExactSpanHasUptoCard : Claim7 := { stood := { row := fnExactSpanHasUptoRow, standIns := [], harness := (true, "344506b01ec72100c36e26faafca8e32e08148e6f2460abdc5995adc86efcef1"), looks := true }, kinds := [], alts := [], laidByText := true, laidKinds := [.sentinel], laidTests := true, laidLooks := .later }
def FnExactSpanHasUptoCardSaid : Prop := Claim7.holds Tryd.pinned (.plain (OpenSpec.upto fnExactSpanHasSpec)) fnExactSpanHasUptoCard

/-- THE SECOND FORM's CARD OF 'laws.FnExactSpanWithin'. -/
def fnExactSpanWithinUptoCard : Claim7 := { stood := { row := fnExactSpanWithinUptoRow, standIns := [], harness := (true, "344506b01ec72100c36e26faafca8e32e08148e6f2460abdc5995adc86efcef1"), looks := true }, kinds := [], alts := [], laidByText := true, laidKinds := [.sentinel], laidTests := true, laidLooks := .later }
def FnExactSpanWithinUptoCardSaid : Prop := Claim7.holds Tryd.pinned (.plain (OpenSpec.upto fnExactSpanWithinSpec)) fnExactSpanWithinUptoCard

/-- THE SECOND FORM's CARD OF 'laws.FnExactSpanHull'. -/
def fnExactSpanHullUptoCard : Claim7 := { stood := { row := fnExactSpanHullUptoRow, standIns := [], harness := (true, "344506b01ec72100c36e26faafca8e32e08148e6f2460abdc5995adc86efcef1"), looks := true }, kinds := [], alts := [], laidByText := true, laidKinds := [.sentinel], laidTests := true, laidLooks := .later }
def FnExactSpanHullUptoCardSaid : Prop := Claim7.holds Tryd.pinned (.plain (OpenSpec.upto fnExactSpanHullSpec)) fnExactSpanHullUptoCard
end Rows
end Go.Proofs.YtpddpekenccclavDoor
