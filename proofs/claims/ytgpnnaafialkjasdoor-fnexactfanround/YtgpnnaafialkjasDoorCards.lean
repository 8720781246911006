/-
  DERIVED. GIVEN WITH THE SEED: THE CARDS: each row of YtgpnnaafialkjasDoorRows.lean that lists a variable, with what it lists TIED to the program's text (the seventh form; the later family's looks); each row that meets fmt, with fmt's text TOLD by the authors' own Lean function (tested against real Go, not proved from fmt's source: count such statements apart). THE CARD IS WHAT COUNTS. Prove the row's statement (the work); the ties are given (YtgpnnaafialkjasDoorTie.lean); close each card by the builder's one call (the guide's Derived/Test/ToyasCard.lean, 'card_holds'). Laid BY PROGRAM, IN A SANDBOX (cutbox-door.mjs). By AI agents, Wed Nov 11 2026. No macro, syntax, notation, axiom, sorry.
-/
import Derived.Test.YtgpnnaafialkjasDoorRows
import GoSem.ClaimSeven
namespace Go.Proofs.YtgpnnaafialkjasDoor
namespace Rows

/-- THE TIED CARD OF 'laws.FnExactFanRound'. -/
def fnExactFanRoundCard : Claim7 := { stood := { row := fnExactFanRoundRow, standIns := [], harness := (true, "efefb945c578545c8daba131e005169b0a1fa6b778bb905e8e30372b5d272d66"), looks := true }, kinds := [], alts := [], laidByText := true, laidKinds := [.sentinel], laidTests := true, laidLooks := .later }
def FnExactFanRoundCardSaid : Prop := Claim7.holds Tryd.pinned (.plain (OpenSpec.ofChange fnExactFanRoundSpec)) fnExactFanRoundCard

/-- THE SECOND FORM's CARD OF 'laws.FnExactFanRound'. -/
def fnExactFanRoundUptoCard : Claim7 := { stood := { row := fnExactFanRoundUptoRow, standIns := [], harness := (true, "efefb945c578545c8daba131e005169b0a1fa6b778bb905e8e30372b5d272d66"), looks := true }, kinds := [], alts := [], laidByText := true, laidKinds := [.sentinel], laidTests := true, laidLooks := .later }
def FnExactFanRoundUptoCardSaid : Prop := Claim7.holds Tryd.pinned (.plain (OpenSpec.upto fnExactFanRoundSpec)) fnExactFanRoundUptoCard
end Rows
end Go.Proofs.YtgpnnaafialkjasDoor
