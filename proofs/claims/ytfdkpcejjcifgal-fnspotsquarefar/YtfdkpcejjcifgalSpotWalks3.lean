/-
  What the specification's functions on places return: SpotFar, SpotDist.
-/
import Derived.Test.YtfdkpcejjcifgalSpotWalks2
import Derived.Test.YtfdkpcejjcifgalSpotBook
namespace Go.Proofs.Ytfdkpcejjcifgal
open Go.RowKit Go.Sort
set_option linter.unusedVariables false
namespace SK
end SK
end Go.Proofs.Ytfdkpcejjcifgal
