/-
  What NumRoot returns, the program's and the specification's, a contract each.
-/
import Derived.Test.YtlkompbigpbefabRows
import Derived.Test.YtlkompbigpbefabNumMath
import Derived.Test.YtlkompbigpbefabRootMath
import Derived.Test.YtlkompbigpbefabNumWalks
import Derived.WalkKit
import Derived.Below
namespace Go.Proofs.Ytlkompbigpbefab
open Go.RowKit
set_option linter.unusedVariables false

namespace NW

theorem l1Root_any (a : Int) (w : World) (h1 : 0 ≤ a) (h2 : a ≤ 1152921504606846976) :
    Calls Try.prog 85 #[.int .i64 a] w fun e w' => e = .returned (.int .i64 (RM.root a)) ∧ w' = w := by
  go_enter Try.func85, Try.ntmps85
  go_wp2
  go_loop [3, 4] (fun l h => ∃ x y : Int, l = .int .i64 x ∧ h = .int .i64 y ∧ 0 ≤ x ∧ x < y ∧ y ≤ 1073741825 ∧ x * x ≤ a ∧ a < y * y) (fun l h => (intOf h - intOf l).toNat)
  case atStart => exact ⟨0, _, rfl, rfl, by omega, by omega, by omega, by omega, by omega⟩
  case round =>
    obtain ⟨x, y, rfl, rfl, g1, g2, g3, g4, g5⟩ := hrel
    by_cases hy : 1 < y - x
    · have hs := RM.sq_bd (x := x + (y - x) / 2) (by omega) (by omega)
      by_cases hc : (x + (y - x) / 2) * (x + (y - x) / 2) ≤ a
      · go_wp2
        go_round
        case rel => exact ⟨_, y, rfl, rfl, by omega, by omega, by omega, hc, g5⟩
        case measure => simp [intOf]; omega
      · go_wp2
        go_round
        case rel => exact ⟨x, _, rfl, rfl, by omega, by omega, by omega, g4, by omega⟩
        case measure => simp [intOf]; omega
    · have e : y = x + 1 := by omega
      subst e
      have E := hide (RM.root_unique g1 g4 g5)
      go_wp2
      go_ret
      exact ⟨ret_int (unhide E), rfl⟩

theorem root_in {a : Int} (h : NM.inB a 0 1152921504606846976 = true) : 0 ≤ a ∧ a ≤ 1152921504606846976 := of_decide_eq_true h
theorem root_out {a : Int} (h : NM.inB a 0 1152921504606846976 = false) : a < 0 ∨ 1152921504606846976 < a := by
  have := of_decide_eq_false h
  omega
def rootV (a : Int) : Int := if NM.inB a 0 1152921504606846976 then RM.root a else 0
theorem rootV_yes {a : Int} (h : NM.inB a 0 1152921504606846976 = true) : RM.root a = rootV a := by simp [rootV, h]
theorem rootV_no {a : Int} (h : NM.inB a 0 1152921504606846976 = false) : 0 = rootV a := by simp [rootV, h]


end NW
end Go.Proofs.Ytlkompbigpbefab
