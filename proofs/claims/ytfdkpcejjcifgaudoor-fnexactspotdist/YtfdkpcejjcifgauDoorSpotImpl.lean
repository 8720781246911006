/-
  What the program's functions on places return: SpotOk, SpotSame, SpotFar.
-/
import Derived.Test.YtfdkpcejjcifgauDoorSpotWalks
namespace Go.Proofs.YtfdkpcejjcifgauDoor
open Go.RowKit Go.Sort
set_option linter.unusedVariables false
namespace SK
theorem isQ_any (a : Int) (w : World) : Calls Tryd.prog 34 #[.int .i64 a] w fun e w' => e = .returned (.bool (NM.inB a (-32400000) 32400000)) ∧ w' = w := by
  by_cases h1 : -32400000 ≤ a
  · by_cases h2 : a ≤ 32400000
    · have H : Hide (true = NM.inB a (-32400000) 32400000) := ⟨(decide_eq_true ⟨h1, h2⟩).symm⟩
      go_enter Tryd.func34, Tryd.ntmps34
      go_wp2
      go_ret
      exact ⟨NW.ret_bool H.out, rfl⟩
    · have H : Hide (false = NM.inB a (-32400000) 32400000) := ⟨(decide_eq_false (fun h => h2 h.2)).symm⟩
      go_enter Tryd.func34, Tryd.ntmps34
      go_wp2
      go_ret
      exact ⟨NW.ret_bool H.out, rfl⟩
  · have H : Hide (false = NM.inB a (-32400000) 32400000) := ⟨(decide_eq_false (fun h => h1 h.1)).symm⟩
    go_enter Tryd.func34, Tryd.ntmps34
    go_wp2
    go_ret
    exact ⟨NW.ret_bool H.out, rfl⟩
theorem from0_any (n m : Int) (w : World) :
    Calls Tryd.prog 35 #[.int .i64 n, .int .i64 m] w fun e w' => e = .returned (.bool (NM.inB n 0 m)) ∧ w' = w := by
  by_cases h1 : 0 ≤ n
  · by_cases h2 : n ≤ m
    · have H : Hide (true = NM.inB n 0 m) := ⟨(decide_eq_true ⟨h1, h2⟩).symm⟩
      go_enter Tryd.func35, Tryd.ntmps35
      go_wp2
      go_ret
      exact ⟨NW.ret_bool H.out, rfl⟩
    · have H : Hide (false = NM.inB n 0 m) := ⟨(decide_eq_false (fun h => h2 h.2)).symm⟩
      go_enter Tryd.func35, Tryd.ntmps35
      go_wp2
      go_ret
      exact ⟨NW.ret_bool H.out, rfl⟩
  · have H : Hide (false = NM.inB n 0 m) := ⟨(decide_eq_false (fun h => h1 h.1)).symm⟩
    go_enter Tryd.func35, Tryd.ntmps35
    go_wp2
    go_ret
    exact ⟨NW.ret_bool H.out, rfl⟩
theorem spotOk_any (a l : Int) (w : World) : Calls Tryd.prog 14 #[spV a l] w fun e w' => e = .returned (.bool (okP a l)) ∧ Below w.heap.size w w' := by
  have K1 := fun w => isQ_any a w
  have K2 := fun w => from0_any l 129599999 w
  have E : Hide (okP a l = (NM.inB a (-32400000) 32400000 && NM.inB l 0 129599999)) := ⟨rfl⟩
  generalize NM.inB a (-32400000) 32400000 = x at *
  generalize NM.inB l 0 129599999 = y at *
  cases x
  · go_enter Tryd.func14, Tryd.ntmps14
    go_wp2_with fail
    refine (K1 _).mono ?_
    rintro e w' ⟨rfl, rfl⟩
    go_wp2
    go_ret
    exact ⟨NW.ret_bool (by rw [E.out]; rfl), below_new _ _⟩
  · go_enter Tryd.func14, Tryd.ntmps14
    go_wp2_with fail
    refine (K1 _).mono ?_
    rintro e w' ⟨rfl, rfl⟩
    go_wp2_with fail
    refine (K2 _).mono ?_
    rintro e w' ⟨rfl, rfl⟩
    go_wp2
    go_ret
    exact ⟨NW.ret_bool (by rw [E.out, Bool.true_and]), below_new _ _⟩
theorem isEnd_any (a l : Int) (w : World) : Calls Tryd.prog 49 #[spV a l] w fun e w' => e = .returned (.bool (poleB a)) ∧ Below w.heap.size w w' := by
  by_cases z : a = 32400000
  · subst z
    go_enter Tryd.func49, Tryd.ntmps49
    go_wp2
    go_ret
    exact ⟨rfl, below_new _ _⟩
  · by_cases y : a = -32400000
    · subst y
      go_enter Tryd.func49, Tryd.ntmps49
      go_wp2
      go_ret
      exact ⟨rfl, below_new _ _⟩
    · have E : Hide (false = poleB a) := ⟨by unfold poleB; simp [z, y]⟩
      have e1 : (a == 32400000) = false := by simpa using z
      have e2 : (a == -32400000) = false := by simpa using y
      go_enter Tryd.func49, Tryd.ntmps49
      go_wp2
      go_ret
      exact ⟨NW.ret_bool (by first | exact E.out | exact e2.trans E.out), below_new _ _⟩
set_option maxHeartbeats 1000000 in
theorem spotSame_any (a l b m : Int) (w : World) : Calls Tryd.prog 22 #[spV a l, spV b m] w fun e w' => e = .returned (.bool (sameB a l b m)) ∧ Below w.heap.size w w' := by
  have K1 := fun w => spotOk_any a l w
  have K2 := fun w => spotOk_any b m w
  have K3 := fun w => isEnd_any a l w
  have B0 := below_new2 w (.cells #[.int .i64 a, .int .i64 l] 28) (.cells #[.int .i64 b, .int .i64 m] 28)
  have X0 := (Box.new w a l 28).alloc (.cells #[.int .i64 b, .int .i64 m] 28)
  have Y0 := Box.new2 w (.cells #[.int .i64 a, .int .i64 l] 28) b m 28
  cases h1 : okP a l
  · have E : Hide (false = sameB a l b m) := ⟨by unfold sameB; rw [h1]; rfl⟩
    rw [h1] at K1
    clear h1 X0 Y0
    go_enter Tryd.func22, Tryd.ntmps22
    go_wp2_with fail
    refine (K1 _).mono ?_
    rintro e w1 ⟨rfl, B1⟩
    go_wp2
    go_ret
    exact ⟨NW.ret_bool E.out, below1 B0 B1⟩
  · rw [h1] at K1
    cases h2 : okP b m
    · have E : Hide (false = sameB a l b m) := ⟨by unfold sameB; rw [h1, h2]; rfl⟩
      rw [h2] at K2
      clear h1 h2
      go_enter Tryd.func22, Tryd.ntmps22
      go_wp2_with fail
      refine (K1 _).mono ?_
      rintro e w1 ⟨rfl, B1⟩
      have Y1 := Y0.kept B1
      have ⟨y0, y1, y2, y3⟩ := Y1
      go_wp2_with fail
      refine (K2 _).mono ?_
      rintro e w2 ⟨rfl, B2⟩
      clear y0 y1 y2 y3
      go_wp2
      go_ret
      exact ⟨NW.ret_bool E.out, below1 (below1 B0 B1) B2⟩
    · rw [h2] at K2
      by_cases z : a = b
      · subst z
        cases y : poleB a
        · have E : Hide ((l == m) = sameB a l a m) := ⟨by unfold sameB; rw [h1, h2, y]; simp⟩
          rw [y] at K3
          clear h1 h2 y
          go_enter Tryd.func22, Tryd.ntmps22
          go_wp2_with fail
          refine (K1 _).mono ?_
          rintro e w1 ⟨rfl, B1⟩
          have X1 := X0.kept B1
          have Y1 := Y0.kept B1
          have ⟨y0, y1, y2, y3⟩ := Y1
          go_wp2_with fail
          refine (K2 _).mono ?_
          rintro e w2 ⟨rfl, B2⟩
          clear y0 y1 y2 y3
          have X2 := X1.kept B2
          have Y2 := Y1.kept B2
          have ⟨x0, x1, x2, x3⟩ := X2
          have ⟨y0, y1, y2, y3⟩ := Y2
          go_wp2_with fail
          refine (K3 _).mono ?_
          rintro e w3 ⟨rfl, B3⟩
          clear x0 x1 x2 x3 y0 y1 y2 y3
          obtain ⟨x0, x1, x2, x3⟩ := X2.kept B3
          obtain ⟨y0, y1, y2, y3⟩ := Y2.kept B3
          go_wp2
          go_ret
          exact ⟨NW.ret_bool E.out, below1 (below1 (below1 B0 B1) B2) B3⟩
        · have E : Hide (true = sameB a l a m) := ⟨by unfold sameB; rw [h1, h2, y]; simp⟩
          rw [y] at K3
          clear h1 h2 y
          go_enter Tryd.func22, Tryd.ntmps22
          go_wp2_with fail
          refine (K1 _).mono ?_
          rintro e w1 ⟨rfl, B1⟩
          have X1 := X0.kept B1
          have Y1 := Y0.kept B1
          have ⟨y0, y1, y2, y3⟩ := Y1
          go_wp2_with fail
          refine (K2 _).mono ?_
          rintro e w2 ⟨rfl, B2⟩
          clear y0 y1 y2 y3
          obtain ⟨x0, x1, x2, x3⟩ := X1.kept B2
          obtain ⟨y0, y1, y2, y3⟩ := Y1.kept B2
          go_wp2_with fail
          refine (K3 _).mono ?_
          rintro e w3 ⟨rfl, B3⟩
          clear x0 x1 x2 x3 y0 y1 y2 y3
          go_wp2
          go_ret
          exact ⟨NW.ret_bool E.out, below1 (below1 (below1 B0 B1) B2) B3⟩
      · have E : Hide (false = sameB a l b m) := ⟨by unfold sameB; rw [h1, h2]; simp [z]⟩
        have e1 : (a == b) = false := by simpa using z
        clear h1 h2
        go_enter Tryd.func22, Tryd.ntmps22
        go_wp2_with fail
        refine (K1 _).mono ?_
        rintro e w1 ⟨rfl, B1⟩
        have X1 := X0.kept B1
        have Y1 := Y0.kept B1
        have ⟨y0, y1, y2, y3⟩ := Y1
        go_wp2_with fail
        refine (K2 _).mono ?_
        rintro e w2 ⟨rfl, B2⟩
        clear y0 y1 y2 y3
        obtain ⟨x0, x1, x2, x3⟩ := X1.kept B2
        obtain ⟨y0, y1, y2, y3⟩ := Y1.kept B2
        go_wp2
        go_ret
        exact ⟨NW.ret_bool E.out, below1 (below1 B0 B1) B2⟩
end SK
end Go.Proofs.YtfdkpcejjcifgauDoor
