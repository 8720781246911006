/-
  What the exact laws of chapter 12 have in common: two spans that are the same.
-/
import Derived.Test.YthefibnjaoimgarSineImpl
namespace Go.Proofs.Ythefibnjaoimgar
open Go.RowKit Go.Sort
set_option linter.unusedVariables false
namespace SK
theorem eqSpan_same (l h : Int) (w : World) : Calls Try.prog 12 #[spV l h, spV l h] w fun e w' => e = .returned (.bool true) ∧ Below w.heap.size w w' := by
  go_enter Try.func12, Try.ntmps12
  go_wp2
  go_ret
  exact ⟨rfl, below_new2 _ _ _⟩
end SK
end Go.Proofs.Ythefibnjaoimgar
