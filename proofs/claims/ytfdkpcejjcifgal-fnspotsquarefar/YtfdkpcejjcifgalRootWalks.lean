/-
  What NumRoot returns, the program's and the specification's, a contract each.
-/
import Derived.Test.YtfdkpcejjcifgalRows
import Derived.Test.YtfdkpcejjcifgalNumMath
import Derived.Test.YtfdkpcejjcifgalRootMath
import Derived.Test.YtfdkpcejjcifgalNumWalks
import Derived.WalkKit
import Derived.Below
namespace Go.Proofs.Ytfdkpcejjcifgal
open Go.RowKit
set_option linter.unusedVariables false

namespace NW

theorem root_in {a : Int} (h : NM.inB a 0 1152921504606846976 = true) : 0 ≤ a ∧ a ≤ 1152921504606846976 := of_decide_eq_true h
theorem root_out {a : Int} (h : NM.inB a 0 1152921504606846976 = false) : a < 0 ∨ 1152921504606846976 < a := by
  have := of_decide_eq_false h
  omega
def rootV (a : Int) : Int := if NM.inB a 0 1152921504606846976 then RM.root a else 0
theorem rootV_yes {a : Int} (h : NM.inB a 0 1152921504606846976 = true) : RM.root a = rootV a := by simp [rootV, h]
theorem rootV_no {a : Int} (h : NM.inB a 0 1152921504606846976 = false) : 0 = rootV a := by simp [rootV, h]


end NW
end Go.Proofs.Ytfdkpcejjcifgal
