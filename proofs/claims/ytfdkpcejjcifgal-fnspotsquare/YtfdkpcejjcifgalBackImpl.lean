/-
  What the program's functions of chapter 13 return: halving by a question, angles of sines, and of places.
-/
import Derived.Test.YtfdkpcejjcifgalSineImpl
import Derived.Test.YtfdkpcejjcifgalBackWalks3
import Derived.WalkMore
namespace Go.Proofs.Ytfdkpcejjcifgal
open Go.RowKit Go.Sort
set_option linter.unusedVariables false
namespace SK
end SK
end Go.Proofs.Ytfdkpcejjcifgal
