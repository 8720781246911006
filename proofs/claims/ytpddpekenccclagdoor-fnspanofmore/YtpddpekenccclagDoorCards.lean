/-
  DERIVED. GIVEN WITH THE SEED: THE CARDS: each row of YtpddpekenccclagDoorRows.lean that lists a variable, with what it lists TIED to the program's text (the seventh form; the later family's looks); each row that meets fmt, with fmt's text TOLD by the authors' own Lean function (tested against real Go, not proved from fmt's source: count such statements apart). THE CARD IS WHAT COUNTS. Prove the row's statement (the work); the ties are given (YtpddpekenccclagDoorTie.lean); close each card by the builder's one call (the guide's Derived/Test/ToyasCard.lean, 'card_holds'). Laid BY PROGRAM, IN A SANDBOX (cutbox-door.mjs). By AI agents, Wed Nov 11 2026. No macro, syntax, notation, axiom, sorry.
-/
import Derived.Test.YtpddpekenccclagDoorRows
import GoSem.ClaimSeven
namespace Go.Proofs.YtpddpekenccclagDoor
namespace Rows

/-- THE TIED CARD OF 'laws.FnSpanOfMore'. -/
def fnSpanOfMoreCard : Claim7 := { stood := { row := fnSpanOfMoreRow, standIns := [], harness := (true, "4ec7684b370f4ebf2f622bd2736f2e33b7edb2b41f7803d591564ead29b6efbe"), looks := true }, kinds := [], alts := [], laidByText := true, laidKinds := [.sentinel], laidTests := true, laidLooks := .later }
def FnSpanOfMoreCardSaid : Prop := Claim7.holds Tryd.pinned (.plain (OpenSpec.ofChange fnSpanOfMoreSpec)) fnSpanOfMoreCard

/-- THE SECOND FORM's CARD OF 'laws.FnSpanOfMore'. -/
def fnSpanOfMoreUptoCard : Claim7 := { stood := { row := fnSpanOfMoreUptoRow, standIns := [], harness := (true, "4ec7684b370f4ebf2f622bd2736f2e33b7edb2b41f7803d591564ead29b6efbe"), looks := true }, kinds := [], alts := [], laidByText := true, laidKinds := [.sentinel], laidTests := true, laidLooks := .later }
def FnSpanOfMoreUptoCardSaid : Prop := Claim7.holds Tryd.pinned (.plain (OpenSpec.upto fnSpanOfMoreSpec)) fnSpanOfMoreUptoCard
end Rows
end Go.Proofs.YtpddpekenccclagDoor
