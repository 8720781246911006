/-
  The draws of places: two places.
-/
import Derived.Test.YtfdkpcejjcifganDrawFan
import Derived.Test.YtfdkpcejjcifganSpotWalks
import Derived.Test.YtfdkpcejjcifganDrawSpot
import Derived.Test.YtfdkpcejjcifganLoose2
import Derived.RegionTactic
namespace Go.Proofs.Ytfdkpcejjcifgan
open Go.RowKit Go.Sort
set_option linter.unusedVariables false
namespace DS
open DK DW DF SK
end DS
end Go.Proofs.Ytfdkpcejjcifgan
