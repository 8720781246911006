/-
  What the specification's functions on places return: SpotOk, SpotSame, SpotFar.
-/
import Derived.Test.YtfdkpcejjcifgauDoorSineKit
import Derived.Test.YtfdkpcejjcifgauDoorNumLaws
import Derived.Test.YtfdkpcejjcifgauDoorSpanMath
import Derived.Test.YtfdkpcejjcifgauDoorAngTurns
import Derived.Test.YtfdkpcejjcifgauDoorQuietTail
namespace Go.Proofs.YtfdkpcejjcifgauDoor
open Go.RowKit Go.Sort
set_option linter.unusedVariables false
namespace SK
/-- Whether a place is ok. -/
def okP (a l : Int) : Bool := NM.inB a (-32400000) 32400000 && NM.inB l 0 129599999
theorem okP_of {a l : Int} (e : okP a l = true) : (-32400000 ≤ a ∧ a ≤ 32400000) ∧ 0 ≤ l ∧ l ≤ 129599999 := by
  unfold okP at e
  rw [Bool.and_eq_true] at e
  exact ⟨of_decide_eq_true e.1, of_decide_eq_true e.2⟩
theorem okP_mk {a l : Int} (a0 : -32400000 ≤ a) (a1 : a ≤ 32400000) (l0 : 0 ≤ l) (l1 : l ≤ 129599999) : okP a l = true := by
  have d1 : NM.inB a (-32400000) 32400000 = true := decide_eq_true (p := -32400000 ≤ a ∧ a ≤ 32400000) ⟨a0, a1⟩
  have d2 : NM.inB l 0 129599999 = true := decide_eq_true (p := 0 ≤ l ∧ l ≤ 129599999) ⟨l0, l1⟩
  unfold okP
  rw [d1, d2]
  rfl
/-- As far up, or down, as can be. -/
def poleB (a : Int) : Bool := a == 32400000 || a == -32400000
theorem pole_of {a : Int} (e : poleB a = true) : a = 32400000 ∨ a = -32400000 := by
  unfold poleB at e
  simpa using e
theorem pole_no {a : Int} (e : poleB a = false) : a ≠ 32400000 ∧ a ≠ -32400000 := by
  unfold poleB at e
  simpa using e
/-- The same place. -/
def sameB (a l b m : Int) : Bool := okP a l && (okP b m && (a == b && (l == m || poleB a)))
theorem sSpotOk_any (a l : Int) (w : World) : Calls Tryd.prog 24 #[spV a l] w fun e w' => e = .returned (.bool (okP a l)) ∧ Below w.heap.size w w' := by
  have K1 := fun w => NW.l6In_any a (-32400000) 32400000 w
  have K2 := fun w => NW.l6In_any l 0 129599999 w
  have E : Hide (okP a l = (NM.inB a (-32400000) 32400000 && NM.inB l 0 129599999)) := ⟨rfl⟩
  generalize NM.inB a (-32400000) 32400000 = x at *
  generalize NM.inB l 0 129599999 = y at *
  cases x
  · go_enter Tryd.func24, Tryd.ntmps24
    go_wp2_with fail
    refine (K1 _).mono ?_
    rintro e w' ⟨rfl, rfl⟩
    go_wp2
    go_ret
    exact ⟨NW.ret_bool (by rw [E.out]; rfl), below_new _ _⟩
  · go_enter Tryd.func24, Tryd.ntmps24
    go_wp2_with fail
    refine (K1 _).mono ?_
    rintro e w' ⟨rfl, rfl⟩
    go_wp2_with fail
    refine (K2 _).mono ?_
    rintro e w' ⟨rfl, rfl⟩
    go_wp2
    go_ret
    exact ⟨NW.ret_bool (by rw [E.out, Bool.true_and]), below_new _ _⟩
theorem sPole_any (a l : Int) (w : World) : Calls Tryd.prog 48 #[spV a l] w fun e w' => e = .returned (.bool (poleB a)) ∧ Below w.heap.size w w' := by
  by_cases z : a = 32400000
  · subst z
    go_enter Tryd.func48, Tryd.ntmps48
    go_wp2
    go_ret
    exact ⟨rfl, below_new _ _⟩
  · by_cases y : a = -32400000
    · subst y
      go_enter Tryd.func48, Tryd.ntmps48
      go_wp2
      go_ret
      exact ⟨rfl, below_new _ _⟩
    · have E : Hide (false = poleB a) := ⟨by unfold poleB; simp [z, y]⟩
      have e1 : (a == 32400000) = false := by simpa using z
      have e2 : (a == -32400000) = false := by simpa using y
      go_enter Tryd.func48, Tryd.ntmps48
      go_wp2
      go_ret
      exact ⟨NW.ret_bool (by first | exact E.out | exact e2.trans E.out), below_new _ _⟩
set_option maxHeartbeats 1000000 in
theorem sSpotSame_any (a l b m : Int) (w : World) : Calls Tryd.prog 20 #[spV a l, spV b m] w fun e w' => e = .returned (.bool (sameB a l b m)) ∧ Below w.heap.size w w' := by
  have K1 := fun w => sSpotOk_any a l w
  have K2 := fun w => sSpotOk_any b m w
  have K3 := fun w => sPole_any a l w
  have B0 := below_new2 w (.cells #[.int .i64 a, .int .i64 l] 28) (.cells #[.int .i64 b, .int .i64 m] 28)
  have X0 := (Box.new w a l 28).alloc (.cells #[.int .i64 b, .int .i64 m] 28)
  have Y0 := Box.new2 w (.cells #[.int .i64 a, .int .i64 l] 28) b m 28
  cases h1 : okP a l
  · have E : Hide (false = sameB a l b m) := ⟨by unfold sameB; rw [h1]; rfl⟩
    rw [h1] at K1
    clear h1 X0 Y0
    go_enter Tryd.func20, Tryd.ntmps20
    go_wp2_with fail
    refine (K1 _).mono ?_
    rintro e w1 ⟨rfl, B1⟩
    go_wp2
    go_ret
    exact ⟨NW.ret_bool E.out, below1 B0 B1⟩
  · rw [h1] at K1
    cases h2 : okP b m
    · have E : Hide (false = sameB a l b m) := ⟨by unfold sameB; rw [h1, h2]; rfl⟩
      rw [h2] at K2
      clear h1 h2
      go_enter Tryd.func20, Tryd.ntmps20
      go_wp2_with fail
      refine (K1 _).mono ?_
      rintro e w1 ⟨rfl, B1⟩
      have Y1 := Y0.kept B1
      have ⟨y0, y1, y2, y3⟩ := Y1
      go_wp2_with fail
      refine (K2 _).mono ?_
      rintro e w2 ⟨rfl, B2⟩
      clear y0 y1 y2 y3
      go_wp2
      go_ret
      exact ⟨NW.ret_bool E.out, below1 (below1 B0 B1) B2⟩
    · rw [h2] at K2
      by_cases z : a = b
      · subst z
        by_cases y : l = m
        · subst y
          have E : Hide (true = sameB a l a l) := ⟨by unfold sameB; rw [h1]; simp⟩
          clear h1 h2
          go_enter Tryd.func20, Tryd.ntmps20
          go_wp2_with fail
          refine (K1 _).mono ?_
          rintro e w1 ⟨rfl, B1⟩
          have X1 := X0.kept B1
          have Y1 := Y0.kept B1
          have ⟨y0, y1, y2, y3⟩ := Y1
          go_wp2_with fail
          refine (K2 _).mono ?_
          rintro e w2 ⟨rfl, B2⟩
          clear y0 y1 y2 y3
          obtain ⟨x0, x1, x2, x3⟩ := X1.kept B2
          obtain ⟨y0, y1, y2, y3⟩ := Y1.kept B2
          go_wp2
          go_ret
          exact ⟨NW.ret_bool E.out, below1 (below1 B0 B1) B2⟩
        · have E : Hide (poleB a = sameB a l a m) := ⟨by unfold sameB; rw [h1, h2]; simp [y]⟩
          have e1 : (l == m) = false := by simpa using y
          clear h1 h2
          go_enter Tryd.func20, Tryd.ntmps20
          go_wp2_with fail
          refine (K1 _).mono ?_
          rintro e w1 ⟨rfl, B1⟩
          have X1 := X0.kept B1
          have Y1 := Y0.kept B1
          have ⟨y0, y1, y2, y3⟩ := Y1
          go_wp2_with fail
          refine (K2 _).mono ?_
          rintro e w2 ⟨rfl, B2⟩
          clear y0 y1 y2 y3
          obtain ⟨x0, x1, x2, x3⟩ := X1.kept B2
          obtain ⟨y0, y1, y2, y3⟩ := Y1.kept B2
          go_wp2_with fail
          refine (K3 _).mono ?_
          rintro e w3 ⟨rfl, B3⟩
          clear x0 x1 x2 x3 y0 y1 y2 y3
          go_wp2
          go_ret
          exact ⟨NW.ret_bool E.out, below1 (below1 (below1 B0 B1) B2) B3⟩
      · have E : Hide (false = sameB a l b m) := ⟨by unfold sameB; rw [h1, h2]; simp [z]⟩
        have e1 : (a == b) = false := by simpa using z
        clear h1 h2
        go_enter Tryd.func20, Tryd.ntmps20
        go_wp2_with fail
        refine (K1 _).mono ?_
        rintro e w1 ⟨rfl, B1⟩
        have X1 := X0.kept B1
        have Y1 := Y0.kept B1
        have ⟨y0, y1, y2, y3⟩ := Y1
        go_wp2_with fail
        refine (K2 _).mono ?_
        rintro e w2 ⟨rfl, B2⟩
        clear y0 y1 y2 y3
        obtain ⟨x0, x1, x2, x3⟩ := X1.kept B2
        obtain ⟨y0, y1, y2, y3⟩ := Y1.kept B2
        go_wp2
        go_ret
        exact ⟨NW.ret_bool E.out, below1 (below1 B0 B1) B2⟩
/-- Half a turn around. -/
def farL (l : Int) : Int := if l < 64800000 then l + 64800000 else l - 64800000
theorem farL_norm {l : Int} (h0 : 0 ≤ l) (h1 : l ≤ 129599999) : AM.norm (l + 64800000) = farL l := by
  unfold AM.norm farL
  by_cases z : l < 64800000
  · rw [if_pos z]; omega
  · rw [if_neg z]; omega
end SK
end Go.Proofs.YtfdkpcejjcifgauDoor
