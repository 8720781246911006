/-
  What the program's functions on places return: SpotOk, SpotSame, SpotFar.
-/
import Derived.Test.YtfdkpcejjcifgamDoorSpotWalks
namespace Go.Proofs.YtfdkpcejjcifgamDoor
open Go.RowKit Go.Sort
set_option linter.unusedVariables false
namespace SK
theorem isQ_any (a : Int) (w : World) : Calls Tryd.prog 42 #[.int .i64 a] w fun e w' => e = .returned (.bool (NM.inB a (-32400000) 32400000)) ∧ w' = w := by
  by_cases h1 : -32400000 ≤ a
  · by_cases h2 : a ≤ 32400000
    · have H : Hide (true = NM.inB a (-32400000) 32400000) := ⟨(decide_eq_true ⟨h1, h2⟩).symm⟩
      go_enter Tryd.func42, Tryd.ntmps42
      go_wp2
      go_ret
      exact ⟨NW.ret_bool H.out, rfl⟩
    · have H : Hide (false = NM.inB a (-32400000) 32400000) := ⟨(decide_eq_false (fun h => h2 h.2)).symm⟩
      go_enter Tryd.func42, Tryd.ntmps42
      go_wp2
      go_ret
      exact ⟨NW.ret_bool H.out, rfl⟩
  · have H : Hide (false = NM.inB a (-32400000) 32400000) := ⟨(decide_eq_false (fun h => h1 h.1)).symm⟩
    go_enter Tryd.func42, Tryd.ntmps42
    go_wp2
    go_ret
    exact ⟨NW.ret_bool H.out, rfl⟩
theorem from0_any (n m : Int) (w : World) :
    Calls Tryd.prog 43 #[.int .i64 n, .int .i64 m] w fun e w' => e = .returned (.bool (NM.inB n 0 m)) ∧ w' = w := by
  by_cases h1 : 0 ≤ n
  · by_cases h2 : n ≤ m
    · have H : Hide (true = NM.inB n 0 m) := ⟨(decide_eq_true ⟨h1, h2⟩).symm⟩
      go_enter Tryd.func43, Tryd.ntmps43
      go_wp2
      go_ret
      exact ⟨NW.ret_bool H.out, rfl⟩
    · have H : Hide (false = NM.inB n 0 m) := ⟨(decide_eq_false (fun h => h2 h.2)).symm⟩
      go_enter Tryd.func43, Tryd.ntmps43
      go_wp2
      go_ret
      exact ⟨NW.ret_bool H.out, rfl⟩
  · have H : Hide (false = NM.inB n 0 m) := ⟨(decide_eq_false (fun h => h1 h.1)).symm⟩
    go_enter Tryd.func43, Tryd.ntmps43
    go_wp2
    go_ret
    exact ⟨NW.ret_bool H.out, rfl⟩
theorem spotOk_any (a l : Int) (w : World) : Calls Tryd.prog 21 #[spV a l] w fun e w' => e = .returned (.bool (okP a l)) ∧ Below w.heap.size w w' := by
  have K1 := fun w => isQ_any a w
  have K2 := fun w => from0_any l 129599999 w
  have E : Hide (okP a l = (NM.inB a (-32400000) 32400000 && NM.inB l 0 129599999)) := ⟨rfl⟩
  generalize NM.inB a (-32400000) 32400000 = x at *
  generalize NM.inB l 0 129599999 = y at *
  cases x
  · go_enter Tryd.func21, Tryd.ntmps21
    go_wp2_with fail
    refine (K1 _).mono ?_
    rintro e w' ⟨rfl, rfl⟩
    go_wp2
    go_ret
    exact ⟨NW.ret_bool (by rw [E.out]; rfl), below_new _ _⟩
  · go_enter Tryd.func21, Tryd.ntmps21
    go_wp2_with fail
    refine (K1 _).mono ?_
    rintro e w' ⟨rfl, rfl⟩
    go_wp2_with fail
    refine (K2 _).mono ?_
    rintro e w' ⟨rfl, rfl⟩
    go_wp2
    go_ret
    exact ⟨NW.ret_bool (by rw [E.out, Bool.true_and]), below_new _ _⟩
theorem spotFar_any (a l : Int) (w : World) : Calls Tryd.prog 13 #[spV a l] w fun e w' => e = .returned (.tuple #[spV (SM.sel (okP a l) (-a)) (SM.sel (okP a l) (farL l)), .bool (okP a l)]) ∧ Below w.heap.size w w' := by
  have K0 := fun w => spotOk_any a l w
  cases h : okP a l
  · rw [h] at K0
    simp only [SM.sel]
    have R := Box.new2 w (.cells #[.int .i64 a, .int .i64 l] 24) 0 0 24
    go_enter Tryd.func13, Tryd.ntmps13
    go_wp2_with fail
    refine (K0 _).mono ?_
    rintro e w1 ⟨rfl, B1⟩
    obtain ⟨R0, R1, R2, R3⟩ := R.kept B1
    go_wp2
    refine bodyPost_ret (v := .tuple #[.agg #[.int .i64 0, .int .i64 0], .bool false]) (by simp [results, Tryd.results13, go_sem, *]) rfl ⟨rfl, ?_⟩
    exact below_set2 (below1 (below_new2 _ _ _) B1) (by omega) _ _
  · rw [h] at K0
    simp only [SM.sel]
    obtain ⟨⟨a0, a1⟩, l0, l1⟩ := okP_of h
    have N : ∀ w, Calls Tryd.prog 29 #[.int .i64 (l + 64800000)] w fun e w' => e = .returned (.int .i64 (farL l)) ∧ w' = w := fun w => by have := AW.wo_any (l + 64800000) w (by omega) (by omega); rw [farL_norm l0 l1] at this; exact this
    generalize farL l = f at *
    clear h
    have P := (Box.new w a l 24).alloc (.cells #[.int .i64 0, .int .i64 0] 24)
    have R := Box.new2 w (.cells #[.int .i64 a, .int .i64 l] 24) 0 0 24
    have B := below_new2 w (.cells #[.int .i64 a, .int .i64 l] 24) (.cells #[.int .i64 0, .int .i64 0] 24)
    go_enter Tryd.func13, Tryd.ntmps13
    go_wp2_with fail
    refine (K0 _).mono ?_
    rintro e w1 ⟨rfl, B1⟩
    replace P := P.kept B1
    replace R := R.kept B1
    replace B := below1 B B1
    clear B1 K0
    go_wp2_with fail
    have k0 := cell_regrown P.c0
    have k1 := cell_regrown P.c1
    have e1 : IntKind.i64.wrap (-a) = -a := wrap_id (by omega) (by omega)
    have e2 : IntKind.i64.wrap (l + 64800000) = l + 64800000 := wrap_id (by omega) (by omega)
    have c1 : ∀ d os, Calls Tryd.prog 29 #[.int .i64 (l + 64800000)] (grow (redrawn w1 d) os) fun e w'' => e = .returned (.int .i64 f) ∧ ∃ p : Regrown, w'' = grow (redrawn w1 p.d) p.os := fun d os => Calls.regrown_of ((N _).mono fun _ _ ⟨h1, h2⟩ => ⟨h1, h2 ▸ Below.refl _ _⟩)
    refine QT.region 7 (by kernel_rfl) (by kernel_rfl) ?_
    simp only [List.take, List.drop]
    repeat (quiet_step (fail))
    quiet_step (exact c1 _ _)
    repeat (quiet_step (fail))
    refine wpQuiet_nil ?_
    rintro _ ⟨p', rfl⟩
    have B2 := below_regrown w1 p'.d p'.os
    generalize grow (redrawn w1 p'.d) p'.os = V at *
    obtain ⟨R0, R1, R2, R3⟩ := R.kept B2
    replace B := below1 B B2
    clear B2 c1 k0 k1 P N
    go_wp2
    refine bodyPost_ret (v := .tuple #[.agg #[.int .i64 (-a), .int .i64 f], .bool true]) (by simp [results, Tryd.results13, go_sem, *]) rfl ⟨rfl, ?_⟩
    exact below_set2 B (by omega) _ _
end SK
end Go.Proofs.YtfdkpcejjcifgamDoor
