/-
  What NumRoot returns, the program's and the specification's, a contract each.
-/
import Derived.Test.YtiidbbnclhknpaaRows
import Derived.Test.YtiidbbnclhknpaaNumMath
import Derived.Test.YtiidbbnclhknpaaRootMath
import Derived.Test.YtiidbbnclhknpaaNumWalks
import Derived.WalkKit
import Derived.Below
namespace Go.Proofs.Ytiidbbnclhknpaa
open Go.RowKit
set_option linter.unusedVariables false

namespace NW

theorem numRoot_yes (a : Int) (w : World) (h1 : 0 ≤ a) (h2 : a ≤ 1152921504606846976) :
    Calls Try.prog 47 #[.int .i64 a] w fun e w' => e = .returned (.tuple #[.int .i64 (RM.root a), .bool true]) ∧ w' = w := by
  go_enter Try.func47, Try.ntmps47
  go_wp2
  go_loop [4, 5] (fun r b => ∃ x y : Int, r = .int .i64 x ∧ b = .int .i64 y ∧ RM.R a x y) (fun _ b => (intOf b).toNat)
  case atStart => exact ⟨0, _, rfl, rfl, RM.R_start h1 h2⟩
  case round =>
    obtain ⟨x, y, rfl, rfl, hR⟩ := hrel
    obtain ⟨g1, g2, g3, g4, g5, -⟩ := id hR
    have HR := hide hR
    clear hR g3
    by_cases hy : 0 < y
    · have hs := RM.sq_bd (x := x + y) (by omega) (by omega)
      by_cases hc : (x + y) * (x + y) ≤ a
      · go_wp2
        go_round
        case rel => exact ⟨x + y, y / 2, rfl, rfl, RM.R_yes h2 (unhide HR) hy hc⟩
        case measure => simp [intOf]; omega
      · go_wp2
        go_round
        case rel => exact ⟨x, y / 2, rfl, rfl, RM.R_no h2 (unhide HR) hy (by omega)⟩
        case measure => simp [intOf]; omega
    · go_wp2
      go_ret2
      exact ⟨ret_two (RM.R_end (unhide HR) (by omega)) rfl, rfl⟩

theorem numRoot_no (a : Int) (w : World) (h : a < 0 ∨ 1152921504606846976 < a) :
    Calls Try.prog 47 #[.int .i64 a] w fun e w' => e = .returned (.tuple #[.int .i64 0, .bool false]) ∧ w' = w := by
  rcases h with h | h
  · go_enter Try.func47, Try.ntmps47
    go_wp2
    go_ret2
    exact ⟨rfl, rfl⟩
  · have h' : ¬ a < 0 := by omega
    go_enter Try.func47, Try.ntmps47
    go_wp2
    go_ret2
    exact ⟨rfl, rfl⟩

theorem l1Root_any (a : Int) (w : World) (h1 : 0 ≤ a) (h2 : a ≤ 1152921504606846976) :
    Calls Try.prog 18 #[.int .i64 a] w fun e w' => e = .returned (.int .i64 (RM.root a)) ∧ w' = w := by
  go_enter Try.func18, Try.ntmps18
  go_wp2
  go_loop [3, 4] (fun l h => ∃ x y : Int, l = .int .i64 x ∧ h = .int .i64 y ∧ 0 ≤ x ∧ x < y ∧ y ≤ 1073741825 ∧ x * x ≤ a ∧ a < y * y) (fun l h => (intOf h - intOf l).toNat)
  case atStart => exact ⟨0, _, rfl, rfl, by omega, by omega, by omega, by omega, by omega⟩
  case round =>
    obtain ⟨x, y, rfl, rfl, g1, g2, g3, g4, g5⟩ := hrel
    by_cases hy : 1 < y - x
    · have hs := RM.sq_bd (x := x + (y - x) / 2) (by omega) (by omega)
      by_cases hc : (x + (y - x) / 2) * (x + (y - x) / 2) ≤ a
      · go_wp2
        go_round
        case rel => exact ⟨_, y, rfl, rfl, by omega, by omega, by omega, hc, g5⟩
        case measure => simp [intOf]; omega
      · go_wp2
        go_round
        case rel => exact ⟨x, _, rfl, rfl, by omega, by omega, by omega, g4, by omega⟩
        case measure => simp [intOf]; omega
    · have e : y = x + 1 := by omega
      subst e
      have E := hide (RM.root_unique g1 g4 g5)
      go_wp2
      go_ret
      exact ⟨ret_int (unhide E), rfl⟩

theorem root_in {a : Int} (h : NM.inB a 0 1152921504606846976 = true) : 0 ≤ a ∧ a ≤ 1152921504606846976 := of_decide_eq_true h
theorem root_out {a : Int} (h : NM.inB a 0 1152921504606846976 = false) : a < 0 ∨ 1152921504606846976 < a := by
  have := of_decide_eq_false h
  omega
def rootV (a : Int) : Int := if NM.inB a 0 1152921504606846976 then RM.root a else 0
theorem rootV_yes {a : Int} (h : NM.inB a 0 1152921504606846976 = true) : RM.root a = rootV a := by simp [rootV, h]
theorem rootV_no {a : Int} (h : NM.inB a 0 1152921504606846976 = false) : 0 = rootV a := by simp [rootV, h]

theorem numRoot_any (a : Int) (w : World) :
    Calls Try.prog 47 #[.int .i64 a] w fun e w' => e = .returned (.tuple #[.int .i64 (rootV a), .bool (NM.inB a 0 1152921504606846976)]) ∧ w' = w := by
  cases h : NM.inB a 0 1152921504606846976
  · refine (numRoot_no a w (root_out h)).mono ?_
    rintro _ w' ⟨rfl, rfl⟩
    exact ⟨ret_two (rootV_no h) rfl, rfl⟩
  · refine (numRoot_yes a w (root_in h).1 (root_in h).2).mono ?_
    rintro _ w' ⟨rfl, rfl⟩
    exact ⟨ret_two (rootV_yes h) rfl, rfl⟩


end NW
end Go.Proofs.Ytiidbbnclhknpaa
