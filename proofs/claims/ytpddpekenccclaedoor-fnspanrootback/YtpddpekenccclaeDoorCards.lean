/-
  DERIVED. GIVEN WITH THE SEED: THE CARDS: each row of YtpddpekenccclaeDoorRows.lean that lists a variable, with what it lists TIED to the program's text (the seventh form; the later family's looks); each row that meets fmt, with fmt's text TOLD by the authors' own Lean function (tested against real Go, not proved from fmt's source: count such statements apart). THE CARD IS WHAT COUNTS. Prove the row's statement (the work); the ties are given (YtpddpekenccclaeDoorTie.lean); close each card by the builder's one call (the guide's Derived/Test/ToyasCard.lean, 'card_holds'). Laid BY PROGRAM, IN A SANDBOX (cutbox-door.mjs). By AI agents, Wed Nov 11 2026. No macro, syntax, notation, axiom, sorry.
-/
import Derived.Test.YtpddpekenccclaeDoorRows
import GoSem.ClaimSeven
namespace Go.Proofs.YtpddpekenccclaeDoor
namespace Rows

/-- THE TIED CARD OF 'laws.FnSpanRootBack'. -/
def fnSpanRootBackCard : Claim7 := { stood := { row := fnSpanRootBackRow, standIns := [], harness := (true, "007b3937d6893b9ff755e56bd48a0cf2d0b3ae74cc3085bb1cd617484921967e"), looks := true }, kinds := [], alts := [], laidByText := true, laidKinds := [.sentinel], laidTests := true, laidLooks := .later }
def FnSpanRootBackCardSaid : Prop := Claim7.holds Tryd.pinned (.plain (OpenSpec.ofChange fnSpanRootBackSpec)) fnSpanRootBackCard

/-- THE TIED CARD OF 'laws.FnSpanRootMore'. -/
def fnSpanRootMoreCard : Claim7 := { stood := { row := fnSpanRootMoreRow, standIns := [], harness := (true, "007b3937d6893b9ff755e56bd48a0cf2d0b3ae74cc3085bb1cd617484921967e"), looks := true }, kinds := [], alts := [], laidByText := true, laidKinds := [.sentinel], laidTests := true, laidLooks := .later }
def FnSpanRootMoreCardSaid : Prop := Claim7.holds Tryd.pinned (.plain (OpenSpec.ofChange fnSpanRootMoreSpec)) fnSpanRootMoreCard

/-- THE SECOND FORM's CARD OF 'laws.FnSpanRootBack'. -/
def fnSpanRootBackUptoCard : Claim7 := { stood := { row := fnSpanRootBackUptoRow, standIns := [], harness := (true, "007b3937d6893b9ff755e56bd48a0cf2d0b3ae74cc3085bb1cd617484921967e"), looks := true }, kinds := [], alts := [], laidByText := true, laidKinds := [.sentinel], laidTests := true, laidLooks := .later }
def FnSpanRootBackUptoCardSaid : Prop := Claim7.holds Tryd.pinned (.plain (OpenSpec.upto fnSpanRootBackSpec)) fnSpanRootBackUptoCard

/-- THE SECOND FORM's CARD OF 'laws.FnSpanRootMore'. -/
def fnSpanRootMoreUptoCard : Claim7 := { stood := { row := fnSpanRootMoreUptoRow, standIns := [], harness := (true, "007b3937d6893b9ff755e56bd48a0cf2d0b3ae74cc3085bb1cd617484921967e"), looks := true }, kinds := [], alts := [], laidByText := true, laidKinds := [.sentinel], laidTests := true, laidLooks := .later }
def FnSpanRootMoreUptoCardSaid : Prop := Claim7.holds Tryd.pinned (.plain (OpenSpec.upto fnSpanRootMoreSpec)) fnSpanRootMoreUptoCard
end Rows
end Go.Proofs.YtpddpekenccclaeDoor
