/-
  What the exact laws of chapter 12 have in common: two spans that are the same.
-/
import Derived.Test.YthefibnjaoimgarDoorSineImpl
namespace Go.Proofs.YthefibnjaoimgarDoor
open Go.RowKit Go.Sort
set_option linter.unusedVariables false
namespace SK
theorem eqSpan_same (l h : Int) (w : World) : Calls Tryd.prog 6 #[spV l h, spV l h] w fun e w' => e = .returned (.bool true) ∧ Below w.heap.size w w' := by
  go_enter Tryd.func6, Tryd.ntmps6
  go_wp2
  go_ret
  exact ⟨rfl, below_new2 _ _ _⟩
end SK
end Go.Proofs.YthefibnjaoimgarDoor
