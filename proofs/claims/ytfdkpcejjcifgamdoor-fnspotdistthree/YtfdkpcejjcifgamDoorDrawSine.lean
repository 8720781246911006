/-
  The draws of chapter 12: angles.
-/
import Derived.Test.YtfdkpcejjcifgamDoorRows
import Derived.Test.YtfdkpcejjcifgamDoorDrawKit
import Derived.Test.YtfdkpcejjcifgamDoorDrawWalks
import Derived.Test.YtfdkpcejjcifgamDoorDrawBig
import Derived.WalkKit
import Derived.Below
namespace Go.Proofs.YtfdkpcejjcifgamDoor
open Go.RowKit
set_option linter.unusedVariables false

namespace DW
open DK

end DW
end Go.Proofs.YtfdkpcejjcifgamDoor
