/-
  What the program's WayOf returns.
-/
import Derived.Test.YtgpnnaafialkjajBackImpl2
namespace Go.Proofs.Ytgpnnaafialkjaj
open Go.RowKit Go.Sort
set_option linter.unusedVariables false
namespace SK
end SK
end Go.Proofs.Ytgpnnaafialkjaj
