/-
  What the specification's functions on places return: SpotFar, SpotDist.
-/
import Derived.Test.YtfdkpcejjcifganDoorSpotWalks2
import Derived.Test.YtfdkpcejjcifganDoorSpotBook
namespace Go.Proofs.YtfdkpcejjcifganDoor
open Go.RowKit Go.Sort
set_option linter.unusedVariables false
namespace SK
end SK
end Go.Proofs.YtfdkpcejjcifganDoor
