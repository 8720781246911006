/-
  DERIVED. GIVEN WITH THE SEED: THE CARDS: each row of YtldogjldnckdmaeDoorRows.lean that lists a variable, with what it lists TIED to the program's text (the seventh form; the later family's looks); each row that meets fmt, with fmt's text TOLD by the authors' own Lean function (tested against real Go, not proved from fmt's source: count such statements apart). THE CARD IS WHAT COUNTS. Prove the row's statement (the work); the ties are given (YtldogjldnckdmaeDoorTie.lean); close each card by the builder's one call (the guide's Derived/Test/ToyasCard.lean, 'card_holds'). Laid BY PROGRAM, IN A SANDBOX (cutbox-door.mjs). By AI agents, Wed Nov 11 2026. No macro, syntax, notation, axiom, sorry.
-/
import Derived.Test.YtldogjldnckdmaeDoorRows
import GoSem.ClaimSeven
namespace Go.Proofs.YtldogjldnckdmaeDoor
namespace Rows

/-- THE TIED CARD OF 'laws.FnSpanRootBack'. -/
def fnSpanRootBackCard : Claim7 := { stood := { row := fnSpanRootBackRow, standIns := [], harness := (true, "804a3533b4173cd52106c946a81fb89486426de31a091e5993308cfa091ff7b2"), looks := true }, kinds := [], alts := [], laidByText := true, laidKinds := [.sentinel], laidTests := true, laidLooks := .later }
def FnSpanRootBackCardSaid : Prop := Claim7.holds Tryd.pinned (.plain (OpenSpec.ofChange fnSpanRootBackSpec)) fnSpanRootBackCard

/-- THE TIED CARD OF 'laws.FnSpanRootMore'. -/
def fnSpanRootMoreCard : Claim7 := { stood := { row := fnSpanRootMoreRow, standIns := [], harness := (true, "804a3533b4173cd52106c946a81fb89486426de31a091e5993308cfa091ff7b2"), looks := true }, kinds := [], alts := [], laidByText := true, laidKinds := [.sentinel], laidTests := true, laidLooks := .later }
def FnSpanRootMoreCardSaid : Prop := Claim7.holds Tryd.pinned (.plain (OpenSpec.ofChange fnSpanRootMoreSpec)) fnSpanRootMoreCard

/-- THE TIED CARD OF 'laws.FnSureRound'. -/
def fnSureRoundCard : Claim7 := { stood := { row := fnSureRoundRow, standIns := [], harness := (true, "804a3533b4173cd52106c946a81fb89486426de31a091e5993308cfa091ff7b2"), looks := true }, kinds := [], alts := [], laidByText := true, laidKinds := [.sentinel], laidTests := true, laidLooks := .later }
def FnSureRoundCardSaid : Prop := Claim7.holds Tryd.pinned (.plain (OpenSpec.ofChange fnSureRoundSpec)) fnSureRoundCard

/-- THE TIED CARD OF 'laws.FnSureNot'. -/
def fnSureNotCard : Claim7 := { stood := { row := fnSureNotRow, standIns := [], harness := (true, "804a3533b4173cd52106c946a81fb89486426de31a091e5993308cfa091ff7b2"), looks := true }, kinds := [], alts := [], laidByText := true, laidKinds := [.sentinel], laidTests := true, laidLooks := .later }
def FnSureNotCardSaid : Prop := Claim7.holds Tryd.pinned (.plain (OpenSpec.ofChange fnSureNotSpec)) fnSureNotCard

/-- THE TIED CARD OF 'laws.FnSureLess'. -/
def fnSureLessCard : Claim7 := { stood := { row := fnSureLessRow, standIns := [], harness := (true, "804a3533b4173cd52106c946a81fb89486426de31a091e5993308cfa091ff7b2"), looks := true }, kinds := [], alts := [], laidByText := true, laidKinds := [.sentinel], laidTests := true, laidLooks := .later }
def FnSureLessCardSaid : Prop := Claim7.holds Tryd.pinned (.plain (OpenSpec.ofChange fnSureLessSpec)) fnSureLessCard

/-- THE TIED CARD OF 'laws.FnSureSign'. -/
def fnSureSignCard : Claim7 := { stood := { row := fnSureSignRow, standIns := [], harness := (true, "804a3533b4173cd52106c946a81fb89486426de31a091e5993308cfa091ff7b2"), looks := true }, kinds := [], alts := [], laidByText := true, laidKinds := [.sentinel], laidTests := true, laidLooks := .later }
def FnSureSignCardSaid : Prop := Claim7.holds Tryd.pinned (.plain (OpenSpec.ofChange fnSureSignSpec)) fnSureSignCard

/-- THE SECOND FORM's CARD OF 'laws.FnSpanRootBack'. -/
def fnSpanRootBackUptoCard : Claim7 := { stood := { row := fnSpanRootBackUptoRow, standIns := [], harness := (true, "804a3533b4173cd52106c946a81fb89486426de31a091e5993308cfa091ff7b2"), looks := true }, kinds := [], alts := [], laidByText := true, laidKinds := [.sentinel], laidTests := true, laidLooks := .later }
def FnSpanRootBackUptoCardSaid : Prop := Claim7.holds Tryd.pinned (.plain (OpenSpec.upto fnSpanRootBackSpec)) fnSpanRootBackUptoCard

/-- THE SECOND FORM's CARD OF 'laws.FnSpanRootMore'. -/
def fnSpanRootMoreUptoCard : Claim7 := { stood := { row := fnSpanRootMoreUptoRow, standIns := [], harness := (true, "804a3533b4173cd52106c946a81fb89486426de31a091e5993308cfa091ff7b2"), looks := true }, kinds := [], alts := [], laidByText := true, laidKinds := [.sentinel], laidTests := true, laidLooks := .later }
def FnSpanRootMoreUptoCardSaid : Prop := Claim7.holds Tryd.pinned (.plain (OpenSpec.upto fnSpanRootMoreSpec)) fnSpanRootMoreUptoCard

/-- THE SECOND FORM's CARD OF 'laws.FnSureRound'. -/
def fnSureRoundUptoCard : Claim7 := { stood := { row := fnSureRoundUptoRow, standIns := [], harness := (true, "804a3533b4173cd52106c946a81fb89486426de31a091e5993308cfa091ff7b2"), looks := true }, kinds := [], alts := [], laidByText := true, laidKinds := [.sentinel], laidTests := true, laidLooks := .later }
def FnSureRoundUptoCardSaid : Prop := Claim7.holds Tryd.pinned (.plain (OpenSpec.upto fnSureRoundSpec)) fnSureRoundUptoCard

/-- THE SECOND FORM's CARD OF 'laws.FnSureNot'. -/
def fnSureNotUptoCard : Claim7 := { stood := { row := fnSureNotUptoRow, standIns := [], harness := (true, "804a3533b4173cd52106c946a81fb89486426de31a091e5993308cfa091ff7b2"), looks := true }, kinds := [], alts := [], laidByText := true, laidKinds := [.sentinel], laidTests := true, laidLooks := .later }
def FnSureNotUptoCardSaid : Prop := Claim7.holds Tryd.pinned (.plain (OpenSpec.upto fnSureNotSpec)) fnSureNotUptoCard

/-- THE SECOND FORM's CARD OF 'laws.FnSureLess'. -/
def fnSureLessUptoCard : Claim7 := { stood := { row := fnSureLessUptoRow, standIns := [], harness := (true, "804a3533b4173cd52106c946a81fb89486426de31a091e5993308cfa091ff7b2"), looks := true }, kinds := [], alts := [], laidByText := true, laidKinds := [.sentinel], laidTests := true, laidLooks := .later }
def FnSureLessUptoCardSaid : Prop := Claim7.holds Tryd.pinned (.plain (OpenSpec.upto fnSureLessSpec)) fnSureLessUptoCard

/-- THE SECOND FORM's CARD OF 'laws.FnSureSign'. -/
def fnSureSignUptoCard : Claim7 := { stood := { row := fnSureSignUptoRow, standIns := [], harness := (true, "804a3533b4173cd52106c946a81fb89486426de31a091e5993308cfa091ff7b2"), looks := true }, kinds := [], alts := [], laidByText := true, laidKinds := [.sentinel], laidTests := true, laidLooks := .later }
def FnSureSignUptoCardSaid : Prop := Claim7.holds Tryd.pinned (.plain (OpenSpec.upto fnSureSignSpec)) fnSureSignUptoCard
end Rows
end Go.Proofs.YtldogjldnckdmaeDoor
