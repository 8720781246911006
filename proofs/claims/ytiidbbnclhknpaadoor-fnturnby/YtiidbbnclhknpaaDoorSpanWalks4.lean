/-
  SpanRoot: a contract each.
-/
import Derived.Test.YtiidbbnclhknpaaDoorRows
import Derived.Test.YtiidbbnclhknpaaDoorSpanMath
import Derived.Test.YtiidbbnclhknpaaDoorNumWalks
import Derived.Test.YtiidbbnclhknpaaDoorRootWalks
import Derived.Test.YtiidbbnclhknpaaDoorSpanFits
import Derived.Test.YtiidbbnclhknpaaDoorQuietTail
import Derived.Test.YtiidbbnclhknpaaDoorSpanWalks
import Derived.WalkKit
import Derived.Below
import Derived.Lib.MinMax
namespace Go.Proofs.YtiidbbnclhknpaaDoor
open Go.RowKit Go.Sort
set_option linter.unusedVariables false
namespace SW
open SM

/-- The root rounded up. -/
def rup (a : Int) : Int := if RM.root a * RM.root a < a then RM.root a + 1 else RM.root a
theorem rup_yes {a : Int} (h : RM.root a * RM.root a < a) : RM.root a + 1 = rup a := by unfold rup; rw [if_pos h]
theorem rup_no {a : Int} (h : ¬ RM.root a * RM.root a < a) : RM.root a = rup a := by unfold rup; rw [if_neg h]
theorem root_no1 {l h : Int} (e : okS l h = false) : rootB l h = false := by simp [rootB, e]
theorem root_no2 {l h : Int} (e : l < 0) : rootB l h = false := by
  unfold rootB
  rw [decide_eq_false (by omega), Bool.and_false]





end SW
end Go.Proofs.YtiidbbnclhknpaaDoor
