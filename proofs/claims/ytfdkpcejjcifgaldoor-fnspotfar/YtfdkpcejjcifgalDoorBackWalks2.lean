/-
  What the specification's functions of chapter 13 return: SineBack, CosBack, WayOf, FanHas, FanRound.
-/
import Derived.Test.YtfdkpcejjcifgalDoorBackWalks
namespace Go.Proofs.YtfdkpcejjcifgalDoor
open Go.RowKit Go.Sort
set_option linter.unusedVariables false
namespace SK
/-- A number that may be a sine. -/
def okU (x : Int) : Bool := NM.inB x (-1000000000) 1000000000
theorem okU_of {x : Int} (h : okU x = true) : -1000000000 ≤ x ∧ x ≤ 1000000000 := of_decide_eq_true h
theorem okU_no {x : Int} (h : okU x = false) : ¬ (-1000000000 ≤ x ∧ x ≤ 1000000000) := of_decide_eq_false h
end SK
end Go.Proofs.YtfdkpcejjcifgalDoor
