/-
  DERIVED. GIVEN WITH THE SEED: THE CARDS: each row of YtldogjldnckdmayDoorRows.lean that lists a variable, with what it lists TIED to the program's text (the seventh form; the later family's looks); each row that meets fmt, with fmt's text TOLD by the authors' own Lean function (tested against real Go, not proved from fmt's source: count such statements apart). THE CARD IS WHAT COUNTS. Prove the row's statement (the work); the ties are given (YtldogjldnckdmayDoorTie.lean); close each card by the builder's one call (the guide's Derived/Test/ToyasCard.lean, 'card_holds'). Laid BY PROGRAM, IN A SANDBOX (cutbox-door.mjs). By AI agents, Wed Nov 11 2026. No macro, syntax, notation, axiom, sorry.
-/
import Derived.Test.YtldogjldnckdmayDoorRows
import GoSem.ClaimSeven
namespace Go.Proofs.YtldogjldnckdmayDoor
namespace Rows

/-- THE TIED CARD OF 'laws.FnExactSureRound'. -/
def fnExactSureRoundCard : Claim7 := { stood := { row := fnExactSureRoundRow, standIns := [], harness := (true, "1c1f2153d0231f27b78c43eed64fd5fc5847cffe538d931f066f98abad4e7126"), looks := true }, kinds := [], alts := [], laidByText := true, laidKinds := [.sentinel], laidTests := true, laidLooks := .later }
def FnExactSureRoundCardSaid : Prop := Claim7.holds Tryd.pinned (.plain (OpenSpec.ofChange fnExactSureRoundSpec)) fnExactSureRoundCard

/-- THE TIED CARD OF 'laws.FnExactSureLess'. -/
def fnExactSureLessCard : Claim7 := { stood := { row := fnExactSureLessRow, standIns := [], harness := (true, "1c1f2153d0231f27b78c43eed64fd5fc5847cffe538d931f066f98abad4e7126"), looks := true }, kinds := [], alts := [], laidByText := true, laidKinds := [.sentinel], laidTests := true, laidLooks := .later }
def FnExactSureLessCardSaid : Prop := Claim7.holds Tryd.pinned (.plain (OpenSpec.ofChange fnExactSureLessSpec)) fnExactSureLessCard

/-- THE TIED CARD OF 'laws.FnExactSureSign'. -/
def fnExactSureSignCard : Claim7 := { stood := { row := fnExactSureSignRow, standIns := [], harness := (true, "1c1f2153d0231f27b78c43eed64fd5fc5847cffe538d931f066f98abad4e7126"), looks := true }, kinds := [], alts := [], laidByText := true, laidKinds := [.sentinel], laidTests := true, laidLooks := .later }
def FnExactSureSignCardSaid : Prop := Claim7.holds Tryd.pinned (.plain (OpenSpec.ofChange fnExactSureSignSpec)) fnExactSureSignCard

/-- THE SECOND FORM's CARD OF 'laws.FnExactSureRound'. -/
def fnExactSureRoundUptoCard : Claim7 := { stood := { row := fnExactSureRoundUptoRow, standIns := [], harness := (true, "1c1f2153d0231f27b78c43eed64fd5fc5847cffe538d931f066f98abad4e7126"), looks := true }, kinds := [], alts := [], laidByText := true, laidKinds := [.sentinel], laidTests := true, laidLooks := .later }
def FnExactSureRoundUptoCardSaid : Prop := Claim7.holds Tryd.pinned (.plain (OpenSpec.upto fnExactSureRoundSpec)) fnExactSureRoundUptoCard

/-- THE SECOND FORM's CARD OF 'laws.FnExactSureLess'. -/
def fnExactSureLessUptoCard : Claim7 := { stood := { row := fnExactSureLessUptoRow, standIns := [], harness := (true, "1c1f2153d0231f27b78c43eed64fd5fc5847cffe538d931f066f98abad4e7126"), looks := true }, kinds := [], alts := [], laidByText := true, laidKinds := [.sentinel], laidTests := true, laidLooks := .later }
def FnExactSureLessUptoCardSaid : Prop := Claim7.holds Tryd.pinned (.plain (OpenSpec.upto fnExactSureLessSpec)) fnExactSureLessUptoCard

/-- THE SECOND FORM's CARD OF 'laws.FnExactSureSign'. -/
def fnExactSureSignUptoCard : Claim7 := { stood := { row := fnExactSureSignUptoRow, standIns := [], harness := (true, "1c1f2153d0231f27b78c43eed64fd5fc5847cffe538d931f066f98abad4e7126"), looks := true }, kinds := [], alts := [], laidByText := true, laidKinds := [.sentinel], laidTests := true, laidLooks := .later }
def FnExactSureSignUptoCardSaid : Prop := Claim7.holds Tryd.pinned (.plain (OpenSpec.upto fnExactSureSignSpec)) fnExactSureSignUptoCard
end Rows
end Go.Proofs.YtldogjldnckdmayDoor
