/-
  What the draws of spans return: numbers that are not great, whatever the code.
-/
import Derived.Test.YtldogjldnckdmabDoorRows
import Derived.Test.YtldogjldnckdmabDoorDrawKit
import Derived.Test.YtldogjldnckdmabDoorDrawWalks
import Derived.Test.YtldogjldnckdmabDoorDrawBig
import Derived.Test.YtldogjldnckdmabDoorDrawSpan
import Derived.Test.YtldogjldnckdmabDoorDrawSpan2
import Derived.Test.YtldogjldnckdmabDoorSpanWalks2
import Derived.Test.YtldogjldnckdmabDoorSpanWalks
import Derived.WalkKit
import Derived.Below
import Derived.Lib.MinMax
namespace Go.Proofs.YtldogjldnckdmabDoor
open Go.RowKit
set_option linter.unusedVariables false

namespace DW
open DK SW









end DW
end Go.Proofs.YtldogjldnckdmabDoor
