/-
  What the specification's functions of chapter 12 return: arcs, rows, sines of small arcs.
-/
import Derived.Test.YtfdkpcejjcifgalDoorSineKit
import Derived.Test.YtfdkpcejjcifgalDoorSineBook
import Derived.Test.YtfdkpcejjcifgalDoorQuietTail
namespace Go.Proofs.YtfdkpcejjcifgalDoor
open Go.RowKit Go.Sort
set_option linter.unusedVariables false
namespace SK
end SK
end Go.Proofs.YtfdkpcejjcifgalDoor
