/-
  The draws of chapter 12: angles.
-/
import Derived.Test.YtfdkpcejjcifgamGreatDoorRows
import Derived.Test.YtfdkpcejjcifgamGreatDoorDrawKit
import Derived.Test.YtfdkpcejjcifgamGreatDoorDrawWalks
import Derived.Test.YtfdkpcejjcifgamGreatDoorDrawBig
import Derived.WalkKit
import Derived.Below
namespace Go.Proofs.YtfdkpcejjcifgamGreatDoor
open Go.RowKit
set_option linter.unusedVariables false

namespace DW
open DK

end DW
end Go.Proofs.YtfdkpcejjcifgamGreatDoor
