/-
  SpanRoot: a contract each.
-/
import Derived.Test.YtiidbbnclhknpaaRows
import Derived.Test.YtiidbbnclhknpaaSpanMath
import Derived.Test.YtiidbbnclhknpaaNumWalks
import Derived.Test.YtiidbbnclhknpaaRootWalks
import Derived.Test.YtiidbbnclhknpaaSpanFits
import Derived.Test.YtiidbbnclhknpaaQuietTail
import Derived.Test.YtiidbbnclhknpaaSpanWalks
import Derived.WalkKit
import Derived.Below
import Derived.Lib.MinMax
namespace Go.Proofs.Ytiidbbnclhknpaa
open Go.RowKit Go.Sort
set_option linter.unusedVariables false
namespace SW
open SM

/-- The root rounded up. -/
def rup (a : Int) : Int := if RM.root a * RM.root a < a then RM.root a + 1 else RM.root a
theorem rup_yes {a : Int} (h : RM.root a * RM.root a < a) : RM.root a + 1 = rup a := by unfold rup; rw [if_pos h]
theorem rup_no {a : Int} (h : ¬ RM.root a * RM.root a < a) : RM.root a = rup a := by unfold rup; rw [if_neg h]
theorem root_no1 {l h : Int} (e : okS l h = false) : rootB l h = false := by simp [rootB, e]
theorem root_no2 {l h : Int} (e : l < 0) : rootB l h = false := by
  unfold rootB
  rw [decide_eq_false (by omega), Bool.and_false]

theorem rootDown_any (x : Int) (w : World) (h0 : 0 ≤ x) (h1 : x ≤ 1152921504606846976) :
    Calls Try.prog 32 #[.int .i64 x] w fun e w' => e = .returned (.int .i64 (RM.root x)) ∧ w' = w := by
  have H : Hid (RM.root x = NW.rootV x) := NW.rootV_yes (decide_eq_true ⟨h0, h1⟩)
  go_enter Try.func32, Try.ntmps32
  go_wp2_with fail
  refine (NW.numRoot_any _ _).mono ?_
  rintro e w' ⟨rfl, rfl⟩
  go_wp2
  go_ret
  exact ⟨NW.ret_int H.out.symm, rfl⟩
theorem rootUp_any (x : Int) (w : World) (h0 : 0 ≤ x) (h1 : x ≤ 1152921504606846976) :
    Calls Try.prog 33 #[.int .i64 x] w fun e w' => e = .returned (.int .i64 (rup x)) ∧ w' = w := by
  have r0 := RM.root_nonneg x
  have r1 := RM.root_small h0 h1
  have r2 := RM.sq_bd (x := RM.root x) (by omega) (by omega)
  go_enter Try.func33, Try.ntmps33
  go_wp2_with fail
  refine (rootDown_any x _ h0 h1).mono ?_
  rintro e w' ⟨rfl, rfl⟩
  by_cases c : RM.root x * RM.root x < x
  · have H : Hid (RM.root x + 1 = rup x) := rup_yes c
    go_wp2
    go_ret
    exact ⟨NW.ret_int H.out, rfl⟩
  · have H : Hid (RM.root x = rup x) := rup_no c
    go_wp2
    go_ret
    exact ⟨NW.ret_int H.out, rfl⟩

theorem l2RootUp_any (x : Int) (w : World) (h0 : 0 ≤ x) (h1 : x ≤ 1152921504606846976) :
    Calls Try.prog 19 #[.int .i64 x] w fun e w' => e = .returned (.int .i64 (rup x)) ∧ w' = w := by
  have r0 := RM.root_nonneg x
  have r1 := RM.root_small h0 h1
  have r2 := RM.sq_bd (x := RM.root x) (by omega) (by omega)
  go_enter Try.func19, Try.ntmps19
  go_wp2_with fail
  refine (NW.l1Root_any x _ h0 h1).mono ?_
  rintro e w' ⟨rfl, rfl⟩
  by_cases c : RM.root x * RM.root x < x
  · have H : Hid (RM.root x + 1 = rup x) := rup_yes c
    go_wp2
    go_ret
    exact ⟨NW.ret_int H.out, rfl⟩
  · have H : Hid (RM.root x = rup x) := rup_no c
    go_wp2
    go_ret
    exact ⟨NW.ret_int H.out, rfl⟩



end SW
end Go.Proofs.Ytiidbbnclhknpaa
