/-
  DERIVED. GIVEN WITH THE SEED: THE CARDS: each row of YtfdkpcejjcifgamDoorRows.lean that lists a variable, with what it lists TIED to the program's text (the seventh form; the later family's looks); each row that meets fmt, with fmt's text TOLD by the authors' own Lean function (tested against real Go, not proved from fmt's source: count such statements apart). THE CARD IS WHAT COUNTS. Prove the row's statement (the work); the ties are given (YtfdkpcejjcifgamDoorTie.lean); close each card by the builder's one call (the guide's Derived/Test/ToyasCard.lean, 'card_holds'). Laid BY PROGRAM, IN A SANDBOX (cutbox-door.mjs). By AI agents, Wed Nov 11 2026. No macro, syntax, notation, axiom, sorry.
-/
import Derived.Test.YtfdkpcejjcifgamDoorRows
import GoSem.ClaimSeven
namespace Go.Proofs.YtfdkpcejjcifgamDoor
namespace Rows

/-- THE TIED CARD OF 'laws.FnSpotDist'. -/
def fnSpotDistCard : Claim7 := { stood := { row := fnSpotDistRow, standIns := [], harness := (true, "f99a3b549cc729fb5a016340ea22f003027ac9523135f0280e442e8a6b5133d2"), looks := true }, kinds := [], alts := [], laidByText := true, laidKinds := [.sentinel], laidTests := true, laidLooks := .later }
def FnSpotDistCardSaid : Prop := Claim7.holds Tryd.pinned (.plain (OpenSpec.ofChange fnSpotDistSpec)) fnSpotDistCard

/-- THE TIED CARD OF 'laws.FnSpotDistUp'. -/
def fnSpotDistUpCard : Claim7 := { stood := { row := fnSpotDistUpRow, standIns := [], harness := (true, "f99a3b549cc729fb5a016340ea22f003027ac9523135f0280e442e8a6b5133d2"), looks := true }, kinds := [], alts := [], laidByText := true, laidKinds := [.sentinel], laidTests := true, laidLooks := .later }
def FnSpotDistUpCardSaid : Prop := Claim7.holds Tryd.pinned (.plain (OpenSpec.ofChange fnSpotDistUpSpec)) fnSpotDistUpCard

/-- THE TIED CARD OF 'laws.FnSpotDistAround'. -/
def fnSpotDistAroundCard : Claim7 := { stood := { row := fnSpotDistAroundRow, standIns := [], harness := (true, "f99a3b549cc729fb5a016340ea22f003027ac9523135f0280e442e8a6b5133d2"), looks := true }, kinds := [], alts := [], laidByText := true, laidKinds := [.sentinel], laidTests := true, laidLooks := .later }
def FnSpotDistAroundCardSaid : Prop := Claim7.holds Tryd.pinned (.plain (OpenSpec.ofChange fnSpotDistAroundSpec)) fnSpotDistAroundCard

/-- THE TIED CARD OF 'laws.FnSpotDistFar'. -/
def fnSpotDistFarCard : Claim7 := { stood := { row := fnSpotDistFarRow, standIns := [], harness := (true, "f99a3b549cc729fb5a016340ea22f003027ac9523135f0280e442e8a6b5133d2"), looks := true }, kinds := [], alts := [], laidByText := true, laidKinds := [.sentinel], laidTests := true, laidLooks := .later }
def FnSpotDistFarCardSaid : Prop := Claim7.holds Tryd.pinned (.plain (OpenSpec.ofChange fnSpotDistFarSpec)) fnSpotDistFarCard

/-- THE TIED CARD OF 'laws.FnSpotDistThree'. -/
def fnSpotDistThreeCard : Claim7 := { stood := { row := fnSpotDistThreeRow, standIns := [], harness := (true, "f99a3b549cc729fb5a016340ea22f003027ac9523135f0280e442e8a6b5133d2"), looks := true }, kinds := [], alts := [], laidByText := true, laidKinds := [.sentinel], laidTests := true, laidLooks := .later }
def FnSpotDistThreeCardSaid : Prop := Claim7.holds Tryd.pinned (.plain (OpenSpec.ofChange fnSpotDistThreeSpec)) fnSpotDistThreeCard

/-- THE SECOND FORM's CARD OF 'laws.FnSpotDist'. -/
def fnSpotDistUptoCard : Claim7 := { stood := { row := fnSpotDistUptoRow, standIns := [], harness := (true, "f99a3b549cc729fb5a016340ea22f003027ac9523135f0280e442e8a6b5133d2"), looks := true }, kinds := [], alts := [], laidByText := true, laidKinds := [.sentinel], laidTests := true, laidLooks := .later }
def FnSpotDistUptoCardSaid : Prop := Claim7.holds Tryd.pinned (.plain (OpenSpec.upto fnSpotDistSpec)) fnSpotDistUptoCard

/-- THE SECOND FORM's CARD OF 'laws.FnSpotDistUp'. -/
def fnSpotDistUpUptoCard : Claim7 := { stood := { row := fnSpotDistUpUptoRow, standIns := [], harness := (true, "f99a3b549cc729fb5a016340ea22f003027ac9523135f0280e442e8a6b5133d2"), looks := true }, kinds := [], alts := [], laidByText := true, laidKinds := [.sentinel], laidTests := true, laidLooks := .later }
def FnSpotDistUpUptoCardSaid : Prop := Claim7.holds Tryd.pinned (.plain (OpenSpec.upto fnSpotDistUpSpec)) fnSpotDistUpUptoCard

/-- THE SECOND FORM's CARD OF 'laws.FnSpotDistAround'. -/
def fnSpotDistAroundUptoCard : Claim7 := { stood := { row := fnSpotDistAroundUptoRow, standIns := [], harness := (true, "f99a3b549cc729fb5a016340ea22f003027ac9523135f0280e442e8a6b5133d2"), looks := true }, kinds := [], alts := [], laidByText := true, laidKinds := [.sentinel], laidTests := true, laidLooks := .later }
def FnSpotDistAroundUptoCardSaid : Prop := Claim7.holds Tryd.pinned (.plain (OpenSpec.upto fnSpotDistAroundSpec)) fnSpotDistAroundUptoCard

/-- THE SECOND FORM's CARD OF 'laws.FnSpotDistFar'. -/
def fnSpotDistFarUptoCard : Claim7 := { stood := { row := fnSpotDistFarUptoRow, standIns := [], harness := (true, "f99a3b549cc729fb5a016340ea22f003027ac9523135f0280e442e8a6b5133d2"), looks := true }, kinds := [], alts := [], laidByText := true, laidKinds := [.sentinel], laidTests := true, laidLooks := .later }
def FnSpotDistFarUptoCardSaid : Prop := Claim7.holds Tryd.pinned (.plain (OpenSpec.upto fnSpotDistFarSpec)) fnSpotDistFarUptoCard

/-- THE SECOND FORM's CARD OF 'laws.FnSpotDistThree'. -/
def fnSpotDistThreeUptoCard : Claim7 := { stood := { row := fnSpotDistThreeUptoRow, standIns := [], harness := (true, "f99a3b549cc729fb5a016340ea22f003027ac9523135f0280e442e8a6b5133d2"), looks := true }, kinds := [], alts := [], laidByText := true, laidKinds := [.sentinel], laidTests := true, laidLooks := .later }
def FnSpotDistThreeUptoCardSaid : Prop := Claim7.holds Tryd.pinned (.plain (OpenSpec.upto fnSpotDistThreeSpec)) fnSpotDistThreeUptoCard
end Rows
end Go.Proofs.YtfdkpcejjcifgamDoor
