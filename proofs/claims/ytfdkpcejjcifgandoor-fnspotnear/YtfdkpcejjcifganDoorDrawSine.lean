/-
  The draws of chapter 12: angles.
-/
import Derived.Test.YtfdkpcejjcifganDoorRows
import Derived.Test.YtfdkpcejjcifganDoorDrawKit
import Derived.Test.YtfdkpcejjcifganDoorDrawWalks
import Derived.Test.YtfdkpcejjcifganDoorDrawBig
import Derived.WalkKit
import Derived.Below
namespace Go.Proofs.YtfdkpcejjcifganDoor
open Go.RowKit
set_option linter.unusedVariables false

namespace DW
open DK

end DW
end Go.Proofs.YtfdkpcejjcifganDoor
