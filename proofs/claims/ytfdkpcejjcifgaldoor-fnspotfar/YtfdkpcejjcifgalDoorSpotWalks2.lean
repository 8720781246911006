/-
  What the specification's functions on places return: SpotSquare, SpotDist.
-/
import Derived.Test.YtfdkpcejjcifgalDoorSpotWalks
import Derived.Test.YtfdkpcejjcifgalDoorSpotBook
import Derived.Test.YtfdkpcejjcifgalDoorBackWalks2
import Derived.Test.YtfdkpcejjcifgalDoorSpanWalks3
import Derived.Test.YtfdkpcejjcifgalDoorSpanWalks4
import Derived.Test.YtfdkpcejjcifgalDoorLoose2Kit
namespace Go.Proofs.YtfdkpcejjcifgalDoor
open Go.RowKit Go.Sort
set_option linter.unusedVariables false
namespace SK
theorem mulB_nn {a b c d : Int} (h0 : 0 ≤ a) (h : a ≤ b) (h1 : b ≤ 1000000000) (g0 : 0 ≤ c) (g : c ≤ d) (g1 : d ≤ 1000000000) : SM.mulB a b c d = true := by
  have m := SI.mul_bdI h0 h h1 g0 g g1
  unfold SM.mulB
  rw [SM.both_mk (SM.okS_mk (by omega)) (SM.okS_mk (by omega)), SM.okS_mk (by omega)]
  rfl
end SK
end Go.Proofs.YtfdkpcejjcifgalDoor
