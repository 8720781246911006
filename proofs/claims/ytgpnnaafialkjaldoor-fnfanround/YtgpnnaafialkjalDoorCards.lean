/-
  DERIVED. GIVEN WITH THE SEED: THE CARDS: each row of YtgpnnaafialkjalDoorRows.lean that lists a variable, with what it lists TIED to the program's text (the seventh form; the later family's looks); each row that meets fmt, with fmt's text TOLD by the authors' own Lean function (tested against real Go, not proved from fmt's source: count such statements apart). THE CARD IS WHAT COUNTS. Prove the row's statement (the work); the ties are given (YtgpnnaafialkjalDoorTie.lean); close each card by the builder's one call (the guide's Derived/Test/ToyasCard.lean, 'card_holds'). Laid BY PROGRAM, IN A SANDBOX (cutbox-door.mjs). By AI agents, Wed Nov 11 2026. No macro, syntax, notation, axiom, sorry.
-/
import Derived.Test.YtgpnnaafialkjalDoorRows
import GoSem.ClaimSeven
namespace Go.Proofs.YtgpnnaafialkjalDoor
namespace Rows

/-- THE TIED CARD OF 'laws.FnFanRound'. -/
def fnFanRoundCard : Claim7 := { stood := { row := fnFanRoundRow, standIns := [], harness := (true, "cef8440e684b4b7b88d698141598274a9017f93f869d0875c32394c497cf48d5"), looks := true }, kinds := [], alts := [], laidByText := true, laidKinds := [.sentinel], laidTests := true, laidLooks := .later }
def FnFanRoundCardSaid : Prop := Claim7.holds Tryd.pinned (.plain (OpenSpec.ofChange fnFanRoundSpec)) fnFanRoundCard

/-- THE SECOND FORM's CARD OF 'laws.FnFanRound'. -/
def fnFanRoundUptoCard : Claim7 := { stood := { row := fnFanRoundUptoRow, standIns := [], harness := (true, "cef8440e684b4b7b88d698141598274a9017f93f869d0875c32394c497cf48d5"), looks := true }, kinds := [], alts := [], laidByText := true, laidKinds := [.sentinel], laidTests := true, laidLooks := .later }
def FnFanRoundUptoCardSaid : Prop := Claim7.holds Tryd.pinned (.plain (OpenSpec.upto fnFanRoundSpec)) fnFanRoundUptoCard
end Rows
end Go.Proofs.YtgpnnaafialkjalDoor
