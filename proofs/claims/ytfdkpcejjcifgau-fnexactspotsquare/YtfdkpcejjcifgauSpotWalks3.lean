/-
  What the specification's functions on places return: SpotFar, SpotDist.
-/
import Derived.Test.YtfdkpcejjcifgauSpotWalks2
import Derived.Test.YtfdkpcejjcifgauSpotBook
namespace Go.Proofs.Ytfdkpcejjcifgau
open Go.RowKit Go.Sort
set_option linter.unusedVariables false
namespace SK
end SK
end Go.Proofs.Ytfdkpcejjcifgau
