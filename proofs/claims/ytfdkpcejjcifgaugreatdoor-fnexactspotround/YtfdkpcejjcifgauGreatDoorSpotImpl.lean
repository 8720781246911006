/-
  What the program's functions on places return: SpotOk, SpotSame, SpotFar.
-/
import Derived.Test.YtfdkpcejjcifgauGreatDoorSpotWalks
namespace Go.Proofs.YtfdkpcejjcifgauGreatDoor
open Go.RowKit Go.Sort
set_option linter.unusedVariables false
namespace SK
theorem isQ_any (a : Int) (w : World) : Calls Tryz.prog 37 #[.int .i64 a] w fun e w' => e = .returned (.bool (NM.inB a (-32400000) 32400000)) ∧ w' = w := by
  by_cases h1 : -32400000 ≤ a
  · by_cases h2 : a ≤ 32400000
    · have H : Hide (true = NM.inB a (-32400000) 32400000) := ⟨(decide_eq_true ⟨h1, h2⟩).symm⟩
      go_enter Tryz.func37, Tryz.ntmps37
      go_wp2
      go_ret
      exact ⟨NW.ret_bool H.out, rfl⟩
    · have H : Hide (false = NM.inB a (-32400000) 32400000) := ⟨(decide_eq_false (fun h => h2 h.2)).symm⟩
      go_enter Tryz.func37, Tryz.ntmps37
      go_wp2
      go_ret
      exact ⟨NW.ret_bool H.out, rfl⟩
  · have H : Hide (false = NM.inB a (-32400000) 32400000) := ⟨(decide_eq_false (fun h => h1 h.1)).symm⟩
    go_enter Tryz.func37, Tryz.ntmps37
    go_wp2
    go_ret
    exact ⟨NW.ret_bool H.out, rfl⟩
theorem from0_any (n m : Int) (w : World) :
    Calls Tryz.prog 38 #[.int .i64 n, .int .i64 m] w fun e w' => e = .returned (.bool (NM.inB n 0 m)) ∧ w' = w := by
  by_cases h1 : 0 ≤ n
  · by_cases h2 : n ≤ m
    · have H : Hide (true = NM.inB n 0 m) := ⟨(decide_eq_true ⟨h1, h2⟩).symm⟩
      go_enter Tryz.func38, Tryz.ntmps38
      go_wp2
      go_ret
      exact ⟨NW.ret_bool H.out, rfl⟩
    · have H : Hide (false = NM.inB n 0 m) := ⟨(decide_eq_false (fun h => h2 h.2)).symm⟩
      go_enter Tryz.func38, Tryz.ntmps38
      go_wp2
      go_ret
      exact ⟨NW.ret_bool H.out, rfl⟩
  · have H : Hide (false = NM.inB n 0 m) := ⟨(decide_eq_false (fun h => h1 h.1)).symm⟩
    go_enter Tryz.func38, Tryz.ntmps38
    go_wp2
    go_ret
    exact ⟨NW.ret_bool H.out, rfl⟩
theorem spotOk_any (a l : Int) (w : World) : Calls Tryz.prog 17 #[spV a l] w fun e w' => e = .returned (.bool (okP a l)) ∧ Below w.heap.size w w' := by
  have K1 := fun w => isQ_any a w
  have K2 := fun w => from0_any l 129599999 w
  have E : Hide (okP a l = (NM.inB a (-32400000) 32400000 && NM.inB l 0 129599999)) := ⟨rfl⟩
  generalize NM.inB a (-32400000) 32400000 = x at *
  generalize NM.inB l 0 129599999 = y at *
  cases x
  · go_enter Tryz.func17, Tryz.ntmps17
    go_wp2_with fail
    refine (K1 _).mono ?_
    rintro e w' ⟨rfl, rfl⟩
    go_wp2
    go_ret
    exact ⟨NW.ret_bool (by rw [E.out]; rfl), below_new _ _⟩
  · go_enter Tryz.func17, Tryz.ntmps17
    go_wp2_with fail
    refine (K1 _).mono ?_
    rintro e w' ⟨rfl, rfl⟩
    go_wp2_with fail
    refine (K2 _).mono ?_
    rintro e w' ⟨rfl, rfl⟩
    go_wp2
    go_ret
    exact ⟨NW.ret_bool (by rw [E.out, Bool.true_and]), below_new _ _⟩
end SK
end Go.Proofs.YtfdkpcejjcifgauGreatDoor
