/-
  The draws of chapter 12: angles.
-/
import Derived.Test.YtfdkpcejjcifganRows
import Derived.Test.YtfdkpcejjcifganDrawKit
import Derived.Test.YtfdkpcejjcifganDrawWalks
import Derived.Test.YtfdkpcejjcifganDrawBig
import Derived.WalkKit
import Derived.Below
namespace Go.Proofs.Ytfdkpcejjcifgan
open Go.RowKit
set_option linter.unusedVariables false

namespace DW
open DK

end DW
end Go.Proofs.Ytfdkpcejjcifgan
