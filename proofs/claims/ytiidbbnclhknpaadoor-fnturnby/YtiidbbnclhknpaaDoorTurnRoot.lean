/-
  How long a way is: what both sides return.
-/
import Derived.Test.YtiidbbnclhknpaaDoorRows
import Derived.Test.YtiidbbnclhknpaaDoorSpanWalks4
import Derived.Test.YtiidbbnclhknpaaDoorSineKit
namespace Go.Proofs.YtiidbbnclhknpaaDoor
open Go.RowKit Go.Sort
set_option linter.unusedVariables false
namespace SW
open SM
/-- Each is at most half of one, either way. -/
def halfB (u : Int) : Bool := decide (-500000000 ≤ u ∧ u ≤ 500000000)
def wayB (u r : Int) : Bool := halfB u && halfB r
theorem halfB_of {u : Int} (h : halfB u = true) : -500000000 ≤ u ∧ u ≤ 500000000 := of_decide_eq_true h
theorem halfB_mk {u : Int} (h : -500000000 ≤ u ∧ u ≤ 500000000) : halfB u = true := decide_eq_true h
theorem wayB_of {u r : Int} (h : wayB u r = true) : (-500000000 ≤ u ∧ u ≤ 500000000) ∧ -500000000 ≤ r ∧ r ≤ 500000000 := by
  unfold wayB at h
  rw [Bool.and_eq_true] at h
  exact ⟨halfB_of h.1, halfB_of h.2⟩
theorem wayB_mk {u r : Int} (h : (-500000000 ≤ u ∧ u ≤ 500000000) ∧ -500000000 ≤ r ∧ r ≤ 500000000) : wayB u r = true := by
  unfold wayB
  rw [halfB_mk h.1, halfB_mk h.2]
  rfl
theorem sqs_bd {u r : Int} (h : (-500000000 ≤ u ∧ u ≤ 500000000) ∧ -500000000 ≤ r ∧ r ≤ 500000000) : (0 ≤ u * u ∧ u * u ≤ 250000000000000000) ∧ 0 ≤ r * r ∧ r * r ≤ 250000000000000000 := by
  have a := mul_bd (x := u) (y := u) (A := 500000000) (B := 500000000) (by omega) (by omega) (by omega) (by omega)
  have b := mul_bd (x := r) (y := r) (A := 500000000) (B := 500000000) (by omega) (by omega) (by omega) (by omega)
  have c : 0 ≤ u * u := by rcases Int.le_total 0 u with h | h; exact Int.mul_nonneg h h; exact Int.mul_nonneg_of_nonpos_of_nonpos h h
  have d : 0 ≤ r * r := by rcases Int.le_total 0 r with h | h; exact Int.mul_nonneg h h; exact Int.mul_nonneg_of_nonpos_of_nonpos h h
  omega
theorem l22Way_any (u r : Int) (w : World) : Calls Tryd.prog 16 #[.int .i64 u, .int .i64 r] w fun e w' => e = .returned (.bool (wayB u r)) ∧ w' = w := by
  go_enter Tryd.func16, Tryd.ntmps16
  go_wp2_with fail
  refine (NW.l6In_any _ _ _ _).mono ?_
  rintro e w' ⟨rfl, rfl⟩
  cases h1 : NM.inB u (-500000000) 500000000
  · go_wp2
    go_ret
    have e1 : halfB u = false := h1
    exact ⟨NW.ret_bool (by unfold wayB; rw [e1]; rfl), rfl⟩
  · go_wp2_with fail
    refine (NW.l6In_any _ _ _ _).mono ?_
    rintro e w' ⟨rfl, rfl⟩
    go_wp2
    go_ret
    have e1 : halfB u = true := h1
    exact ⟨NW.ret_bool (by unfold wayB; rw [e1]; rfl), rfl⟩
theorem isHalf_any (u : Int) (w : World) : Calls Tryd.prog 20 #[.int .i64 u] w fun e w' => e = .returned (.bool (halfB u)) ∧ w' = w := by
  by_cases c : -500000000 ≤ u
  · by_cases d : u ≤ 500000000
    · have H : Hid (true = halfB u) := (halfB_mk ⟨c, d⟩).symm
      go_enter Tryd.func20, Tryd.ntmps20
      go_wp2
      go_ret
      exact ⟨NW.ret_bool H.out, rfl⟩
    · have H : Hid (false = halfB u) := (decide_eq_false (by omega)).symm
      have d' : decide (u ≤ 500000000) = false := decide_eq_false d
      go_enter Tryd.func20, Tryd.ntmps20
      go_wp2
      go_ret
      exact ⟨NW.ret_bool H.out, rfl⟩
  · have H : Hid (false = halfB u) := (decide_eq_false (by omega)).symm
    go_enter Tryd.func20, Tryd.ntmps20
    go_wp2
    go_ret
    exact ⟨NW.ret_bool H.out, rfl⟩
end SW
end Go.Proofs.YtiidbbnclhknpaaDoor
