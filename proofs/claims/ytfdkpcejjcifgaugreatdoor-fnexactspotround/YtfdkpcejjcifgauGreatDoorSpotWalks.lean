/-
  What the specification's functions on places return: SpotOk, SpotSame, SpotFar.
-/
import Derived.Test.YtfdkpcejjcifgauGreatDoorSineKit
import Derived.Test.YtfdkpcejjcifgauGreatDoorNumLaws
import Derived.Test.YtfdkpcejjcifgauGreatDoorSpanMath
import Derived.Test.YtfdkpcejjcifgauGreatDoorAngTurns
import Derived.Test.YtfdkpcejjcifgauGreatDoorQuietTail
namespace Go.Proofs.YtfdkpcejjcifgauGreatDoor
open Go.RowKit Go.Sort
set_option linter.unusedVariables false
namespace SK
/-- Whether a place is ok. -/
def okP (a l : Int) : Bool := NM.inB a (-32400000) 32400000 && NM.inB l 0 129599999
theorem okP_of {a l : Int} (e : okP a l = true) : (-32400000 ≤ a ∧ a ≤ 32400000) ∧ 0 ≤ l ∧ l ≤ 129599999 := by
  unfold okP at e
  rw [Bool.and_eq_true] at e
  exact ⟨of_decide_eq_true e.1, of_decide_eq_true e.2⟩
theorem okP_mk {a l : Int} (a0 : -32400000 ≤ a) (a1 : a ≤ 32400000) (l0 : 0 ≤ l) (l1 : l ≤ 129599999) : okP a l = true := by
  have d1 : NM.inB a (-32400000) 32400000 = true := decide_eq_true (p := -32400000 ≤ a ∧ a ≤ 32400000) ⟨a0, a1⟩
  have d2 : NM.inB l 0 129599999 = true := decide_eq_true (p := 0 ≤ l ∧ l ≤ 129599999) ⟨l0, l1⟩
  unfold okP
  rw [d1, d2]
  rfl
/-- As far up, or down, as can be. -/
def poleB (a : Int) : Bool := a == 32400000 || a == -32400000
theorem pole_of {a : Int} (e : poleB a = true) : a = 32400000 ∨ a = -32400000 := by
  unfold poleB at e
  simpa using e
theorem pole_no {a : Int} (e : poleB a = false) : a ≠ 32400000 ∧ a ≠ -32400000 := by
  unfold poleB at e
  simpa using e
/-- The same place. -/
def sameB (a l b m : Int) : Bool := okP a l && (okP b m && (a == b && (l == m || poleB a)))
theorem sSpotOk_any (a l : Int) (w : World) : Calls Tryz.prog 25 #[spV a l] w fun e w' => e = .returned (.bool (okP a l)) ∧ Below w.heap.size w w' := by
  have K1 := fun w => NW.l6In_any a (-32400000) 32400000 w
  have K2 := fun w => NW.l6In_any l 0 129599999 w
  have E : Hide (okP a l = (NM.inB a (-32400000) 32400000 && NM.inB l 0 129599999)) := ⟨rfl⟩
  generalize NM.inB a (-32400000) 32400000 = x at *
  generalize NM.inB l 0 129599999 = y at *
  cases x
  · go_enter Tryz.func25, Tryz.ntmps25
    go_wp2_with fail
    refine (K1 _).mono ?_
    rintro e w' ⟨rfl, rfl⟩
    go_wp2
    go_ret
    exact ⟨NW.ret_bool (by rw [E.out]; rfl), below_new _ _⟩
  · go_enter Tryz.func25, Tryz.ntmps25
    go_wp2_with fail
    refine (K1 _).mono ?_
    rintro e w' ⟨rfl, rfl⟩
    go_wp2_with fail
    refine (K2 _).mono ?_
    rintro e w' ⟨rfl, rfl⟩
    go_wp2
    go_ret
    exact ⟨NW.ret_bool (by rw [E.out, Bool.true_and]), below_new _ _⟩
/-- Half a turn around. -/
def farL (l : Int) : Int := if l < 64800000 then l + 64800000 else l - 64800000
theorem farL_norm {l : Int} (h0 : 0 ≤ l) (h1 : l ≤ 129599999) : AM.norm (l + 64800000) = farL l := by
  unfold AM.norm farL
  by_cases z : l < 64800000
  · rw [if_pos z]; omega
  · rw [if_neg z]; omega
end SK
end Go.Proofs.YtfdkpcejjcifgauGreatDoor
