/-
  What the specification's functions on places return: SpotFar, SpotDist.
-/
import Derived.Test.YtfdkpcejjcifgalDoorSpotWalks2
import Derived.Test.YtfdkpcejjcifgalDoorSpotBook
namespace Go.Proofs.YtfdkpcejjcifgalDoor
open Go.RowKit Go.Sort
set_option linter.unusedVariables false
namespace SK
end SK
end Go.Proofs.YtfdkpcejjcifgalDoor
