/-
  What the specification's WayOf returns.
-/
import Derived.Test.YtfdkpcejjcifgauDoorBackWalks2
namespace Go.Proofs.YtfdkpcejjcifgauDoor
open Go.RowKit Go.Sort
set_option linter.unusedVariables false
namespace SK
/-- A place that has an angle. -/
def okW (u r : Int) : Bool := okU u && (okU r && !(u == 0 && r == 0))
theorem okW_of {u r : Int} (h : okW u r = true) : (-1000000000 ≤ u ∧ u ≤ 1000000000) ∧ (-1000000000 ≤ r ∧ r ≤ 1000000000) ∧ (u ≠ 0 ∨ r ≠ 0) := by
  unfold okW at h
  simp only [Bool.and_eq_true, Bool.not_eq_true', Bool.and_eq_false_iff, beq_eq_false_iff_ne] at h
  exact ⟨okU_of h.1, okU_of h.2.1, h.2.2⟩
/-- The quarter's fan, turned. -/
def rtL (u r : Int) : Int := if r < 0 then 64800000 - SI.wqH (max u (-u)) (max r (-r)) else SI.wqL (max u (-u)) (max r (-r))
def rtH (u r : Int) : Int := if r < 0 then 64800000 - SI.wqL (max u (-u)) (max r (-r)) else SI.wqH (max u (-u)) (max r (-r))
def wyL (u r : Int) : Int := if u < 0 then -rtH u r else rtL u r
def wyH (u r : Int) : Int := if u < 0 then -rtL u r else rtH u r
end SK
end Go.Proofs.YtfdkpcejjcifgauDoor
