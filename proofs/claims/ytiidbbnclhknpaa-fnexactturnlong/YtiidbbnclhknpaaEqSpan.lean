/-
  Two spans that are the same are told so.
-/
import Derived.Test.YtiidbbnclhknpaaSineKit
namespace Go.Proofs.Ytiidbbnclhknpaa
open Go.RowKit Go.Sort
set_option linter.unusedVariables false
namespace ES
open SK
theorem eqSpan_same (l h : Int) (w : World) : Calls Try.prog 13 #[spV l h, spV l h] w fun e w' => e = .returned (.bool true) ∧ Below w.heap.size w w' := by
  go_enter Try.func13, Try.ntmps13
  go_wp2
  go_ret
  exact ⟨rfl, below_new2 _ _ _⟩
end ES
end Go.Proofs.Ytiidbbnclhknpaa
