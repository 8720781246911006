/-
  What the specification's functions of chapter 12 return: sines of all angles.
-/
import Derived.Test.YtfdkpcejjcifgalDoorSineWalks
import Derived.Test.YtfdkpcejjcifgalDoorSpanMath
namespace Go.Proofs.YtfdkpcejjcifgalDoor
open Go.RowKit Go.Sort
set_option linter.unusedVariables false
namespace SK
/-- A sine's angle is told. -/
def okA (a : Int) : Bool := NM.inB a (-1000000000000) 1000000000000
theorem okA_of {a : Int} (h : okA a = true) : -1000000000000 ≤ a ∧ a ≤ 1000000000000 := of_decide_eq_true h
theorem okA_no {a : Int} (h : okA a = false) : ¬ (-1000000000000 ≤ a ∧ a ≤ 1000000000000) := of_decide_eq_false h
theorem okA_mk {a : Int} (h1 : -1000000000000 ≤ a) (h2 : a ≤ 1000000000000) : okA a = true := decide_eq_true ⟨h1, h2⟩
theorem okA_mkno {a : Int} (h : ¬ (-1000000000000 ≤ a ∧ a ≤ 1000000000000)) : okA a = false := decide_eq_false h
/-- An angle of an eighth of a turn at most. -/
def okE (a : Int) : Bool := NM.inB a (-16200000) 16200000
theorem okE_of {a : Int} (h : okE a = true) : -16200000 ≤ a ∧ a ≤ 16200000 := of_decide_eq_true h
theorem okE_no {a : Int} (h : okE a = false) : ¬ (-16200000 ≤ a ∧ a ≤ 16200000) := of_decide_eq_false h
/-- The arc of an angle. -/
def arL (a : Int) : Int := if a < 0 then -SI.aH (-2 * a) else SI.aL (2 * a)
def arH (a : Int) : Int := if a < 0 then -SI.aL (-2 * a) else SI.aH (2 * a)
theorem mod_eq (h : Int) : h - NM.down h 259200000 * 259200000 = h % 259200000 := by unfold NM.down; omega
end SK
end Go.Proofs.YtfdkpcejjcifgalDoor
