/-
  What the program's WayOf returns.
-/
import Derived.Test.YtfdkpcejjcifgajBackImpl2
namespace Go.Proofs.Ytfdkpcejjcifgaj
open Go.RowKit Go.Sort
set_option linter.unusedVariables false
namespace SK
end SK
end Go.Proofs.Ytfdkpcejjcifgaj
