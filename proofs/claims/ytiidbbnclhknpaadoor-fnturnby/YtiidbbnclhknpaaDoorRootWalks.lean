/-
  What NumRoot returns, the program's and the specification's, a contract each.
-/
import Derived.Test.YtiidbbnclhknpaaDoorRows
import Derived.Test.YtiidbbnclhknpaaDoorNumMath
import Derived.Test.YtiidbbnclhknpaaDoorRootMath
import Derived.Test.YtiidbbnclhknpaaDoorNumWalks
import Derived.WalkKit
import Derived.Below
namespace Go.Proofs.YtiidbbnclhknpaaDoor
open Go.RowKit
set_option linter.unusedVariables false

namespace NW

theorem root_in {a : Int} (h : NM.inB a 0 1152921504606846976 = true) : 0 ≤ a ∧ a ≤ 1152921504606846976 := of_decide_eq_true h
theorem root_out {a : Int} (h : NM.inB a 0 1152921504606846976 = false) : a < 0 ∨ 1152921504606846976 < a := by
  have := of_decide_eq_false h
  omega
def rootV (a : Int) : Int := if NM.inB a 0 1152921504606846976 then RM.root a else 0
theorem rootV_yes {a : Int} (h : NM.inB a 0 1152921504606846976 = true) : RM.root a = rootV a := by simp [rootV, h]
theorem rootV_no {a : Int} (h : NM.inB a 0 1152921504606846976 = false) : 0 = rootV a := by simp [rootV, h]


end NW
end Go.Proofs.YtiidbbnclhknpaaDoor
