/-
  Whole turns taken away: what AngNorm and AngDiff answer, by the specification and by the program.
-/
import Derived.Test.YtfdkpcejjcifgauDoorRows
import Derived.Test.YtfdkpcejjcifgauDoorAngMath
import Derived.Test.YtfdkpcejjcifgauDoorNumWalks
import Derived.WalkKit
import Derived.Below
namespace Go.Proofs.YtfdkpcejjcifgauDoor
open Go.RowKit
set_option linter.unusedVariables false
namespace AW
open AM
/-- Hidden from the walk's simp. -/
structure Hide (p : Prop) : Prop where
  out : p
theorem ret_ib {a b : Int} {c d : Bool} (h : a = b) (g : c = d) : Ending.returned (.tuple #[.int .i64 a, .bool c]) = .returned (.tuple #[.int .i64 b, .bool d]) := by rw [h, g]
theorem down_turn (a : Int) : ∃ q, NM.down a 129600000 = q ∧ a - q * 129600000 = norm a := ⟨_, rfl, norm_down a⟩
theorem diffB_l {a b : Int} (h : okA a = false) : diffB a b = false := by simp [diffB, h]
theorem diffB_r {a b : Int} (h : okA b = false) : diffB a b = false := by simp [diffB, h]
theorem diffB_t {a b : Int} (h : okA a = true) (g : okA b = true) : diffB a b = true := by simp [diffB, h, g]
theorem diffV_f {a b : Int} (h : diffB a b = false) : 0 = diffV a b := by simp [diffV, h, sel]
theorem diffV_t {a b : Int} (h : diffB a b = true) : diff a b = diffV a b := by simp [diffV, h, sel]
theorem diff_n (a b : Int) : diff a b = if 64800000 < norm (b - a) then norm (b - a) - 129600000 else norm (b - a) := rfl
theorem diff_g {a b : Int} (h : 64800000 < norm (b - a)) : norm (b - a) - 129600000 = diff a b := by rw [diff_n, if_pos h]
theorem diff_l {a b : Int} (h : ¬ 64800000 < norm (b - a)) : norm (b - a) = diff a b := by rw [diff_n, if_neg h]
end AW
end Go.Proofs.YtfdkpcejjcifgauDoor
