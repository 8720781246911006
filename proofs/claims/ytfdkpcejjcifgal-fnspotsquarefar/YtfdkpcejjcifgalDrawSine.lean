/-
  The draws of chapter 12: angles.
-/
import Derived.Test.YtfdkpcejjcifgalRows
import Derived.Test.YtfdkpcejjcifgalDrawKit
import Derived.Test.YtfdkpcejjcifgalDrawWalks
import Derived.Test.YtfdkpcejjcifgalDrawBig
import Derived.WalkKit
import Derived.Below
namespace Go.Proofs.Ytfdkpcejjcifgal
open Go.RowKit
set_option linter.unusedVariables false

namespace DW
open DK

end DW
end Go.Proofs.Ytfdkpcejjcifgal
