/-
  What the program's functions of chapter 13 return: halving by a question, angles of sines, and of places.
-/
import Derived.Test.YtfdkpcejjcifgauSineImpl
import Derived.Test.YtfdkpcejjcifgauBackWalks3
import Derived.WalkMore
namespace Go.Proofs.Ytfdkpcejjcifgau
open Go.RowKit Go.Sort
set_option linter.unusedVariables false
namespace SK
end SK
end Go.Proofs.Ytfdkpcejjcifgau
