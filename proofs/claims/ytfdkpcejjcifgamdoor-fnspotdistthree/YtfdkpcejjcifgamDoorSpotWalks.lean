/-
  What the specification's functions on places return: SpotOk, SpotSame, SpotFar.
-/
import Derived.Test.YtfdkpcejjcifgamDoorSineKit
import Derived.Test.YtfdkpcejjcifgamDoorNumLaws
import Derived.Test.YtfdkpcejjcifgamDoorSpanMath
import Derived.Test.YtfdkpcejjcifgamDoorAngTurns
import Derived.Test.YtfdkpcejjcifgamDoorQuietTail
namespace Go.Proofs.YtfdkpcejjcifgamDoor
open Go.RowKit Go.Sort
set_option linter.unusedVariables false
namespace SK
/-- Whether a place is ok. -/
def okP (a l : Int) : Bool := NM.inB a (-32400000) 32400000 && NM.inB l 0 129599999
theorem okP_of {a l : Int} (e : okP a l = true) : (-32400000 ≤ a ∧ a ≤ 32400000) ∧ 0 ≤ l ∧ l ≤ 129599999 := by
  unfold okP at e
  rw [Bool.and_eq_true] at e
  exact ⟨of_decide_eq_true e.1, of_decide_eq_true e.2⟩
theorem okP_mk {a l : Int} (a0 : -32400000 ≤ a) (a1 : a ≤ 32400000) (l0 : 0 ≤ l) (l1 : l ≤ 129599999) : okP a l = true := by
  have d1 : NM.inB a (-32400000) 32400000 = true := decide_eq_true (p := -32400000 ≤ a ∧ a ≤ 32400000) ⟨a0, a1⟩
  have d2 : NM.inB l 0 129599999 = true := decide_eq_true (p := 0 ≤ l ∧ l ≤ 129599999) ⟨l0, l1⟩
  unfold okP
  rw [d1, d2]
  rfl
/-- As far up, or down, as can be. -/
def poleB (a : Int) : Bool := a == 32400000 || a == -32400000
theorem pole_of {a : Int} (e : poleB a = true) : a = 32400000 ∨ a = -32400000 := by
  unfold poleB at e
  simpa using e
theorem pole_no {a : Int} (e : poleB a = false) : a ≠ 32400000 ∧ a ≠ -32400000 := by
  unfold poleB at e
  simpa using e
/-- The same place. -/
def sameB (a l b m : Int) : Bool := okP a l && (okP b m && (a == b && (l == m || poleB a)))
theorem sSpotOk_any (a l : Int) (w : World) : Calls Tryd.prog 15 #[spV a l] w fun e w' => e = .returned (.bool (okP a l)) ∧ Below w.heap.size w w' := by
  have K1 := fun w => NW.l6In_any a (-32400000) 32400000 w
  have K2 := fun w => NW.l6In_any l 0 129599999 w
  have E : Hide (okP a l = (NM.inB a (-32400000) 32400000 && NM.inB l 0 129599999)) := ⟨rfl⟩
  generalize NM.inB a (-32400000) 32400000 = x at *
  generalize NM.inB l 0 129599999 = y at *
  cases x
  · go_enter Tryd.func15, Tryd.ntmps15
    go_wp2_with fail
    refine (K1 _).mono ?_
    rintro e w' ⟨rfl, rfl⟩
    go_wp2
    go_ret
    exact ⟨NW.ret_bool (by rw [E.out]; rfl), below_new _ _⟩
  · go_enter Tryd.func15, Tryd.ntmps15
    go_wp2_with fail
    refine (K1 _).mono ?_
    rintro e w' ⟨rfl, rfl⟩
    go_wp2_with fail
    refine (K2 _).mono ?_
    rintro e w' ⟨rfl, rfl⟩
    go_wp2
    go_ret
    exact ⟨NW.ret_bool (by rw [E.out, Bool.true_and]), below_new _ _⟩
/-- Half a turn around. -/
def farL (l : Int) : Int := if l < 64800000 then l + 64800000 else l - 64800000
theorem farL_norm {l : Int} (h0 : 0 ≤ l) (h1 : l ≤ 129599999) : AM.norm (l + 64800000) = farL l := by
  unfold AM.norm farL
  by_cases z : l < 64800000
  · rw [if_pos z]; omega
  · rw [if_neg z]; omega
theorem sSpotFar_any (a l : Int) (w : World) : Calls Tryd.prog 33 #[spV a l] w fun e w' => e = .returned (.tuple #[spV (SM.sel (okP a l) (-a)) (SM.sel (okP a l) (farL l)), .bool (okP a l)]) ∧ Below w.heap.size w w' := by
  have K0 := fun w => sSpotOk_any a l w
  cases h : okP a l
  · rw [h] at K0
    simp only [SM.sel]
    obtain ⟨R0, R1, R2, R3⟩ := Box.new2 w (.cells #[.int .i64 a, .int .i64 l] 24) 0 0 24
    have R := Box.new2 w (.cells #[.int .i64 a, .int .i64 l] 24) 0 0 24
    clear R0 R1 R2 R3
    go_enter Tryd.func33, Tryd.ntmps33
    go_wp2_with fail
    refine (K0 _).mono ?_
    rintro e w1 ⟨rfl, B1⟩
    obtain ⟨R0, R1, R2, R3⟩ := R.kept B1
    go_wp2
    refine bodyPost_ret (v := .tuple #[.agg #[.int .i64 0, .int .i64 0], .bool false]) (by simp [results, Tryd.results33, go_sem, *]) rfl ⟨rfl, ?_⟩
    exact below_set2 (below1 (below_new2 _ _ _) B1) (by omega) _ _
  · rw [h] at K0
    simp only [SM.sel]
    obtain ⟨⟨a0, a1⟩, l0, l1⟩ := okP_of h
    have N : ∀ w, Calls Tryd.prog 59 #[.int .i64 (l + 64800000)] w fun e w' => e = .returned (.int .i64 (farL l)) ∧ w' = w := fun w => by have := AW.sNormIn_any (l + 64800000) w (by omega) (by omega); rw [farL_norm l0 l1] at this; exact this
    generalize farL l = f at *
    clear h
    have P := (Box.new w a l 24).alloc (.cells #[.int .i64 0, .int .i64 0] 24)
    have R := Box.new2 w (.cells #[.int .i64 a, .int .i64 l] 24) 0 0 24
    have B := below_new2 w (.cells #[.int .i64 a, .int .i64 l] 24) (.cells #[.int .i64 0, .int .i64 0] 24)
    go_enter Tryd.func33, Tryd.ntmps33
    go_wp2_with fail
    refine (K0 _).mono ?_
    rintro e w1 ⟨rfl, B1⟩
    replace P := P.kept B1
    replace R := R.kept B1
    replace B := below1 B B1
    clear B1 K0
    go_wp2_with fail
    have k0 := cell_regrown P.c0
    have k1 := cell_regrown P.c1
    have e1 : IntKind.i64.wrap (-a) = -a := wrap_id (by omega) (by omega)
    have e2 : IntKind.i64.wrap (l + 64800000) = l + 64800000 := wrap_id (by omega) (by omega)
    have c1 : ∀ d os, Calls Tryd.prog 59 #[.int .i64 (l + 64800000)] (grow (redrawn w1 d) os) fun e w'' => e = .returned (.int .i64 f) ∧ ∃ p : Regrown, w'' = grow (redrawn w1 p.d) p.os := fun d os => Calls.regrown_of ((N _).mono fun _ _ ⟨h1, h2⟩ => ⟨h1, h2 ▸ Below.refl _ _⟩)
    refine QT.region 7 (by kernel_rfl) (by kernel_rfl) ?_
    simp only [List.take, List.drop]
    repeat (quiet_step (fail))
    quiet_step (exact c1 _ _)
    repeat (quiet_step (fail))
    refine wpQuiet_nil ?_
    rintro _ ⟨p', rfl⟩
    have B2 := below_regrown w1 p'.d p'.os
    generalize grow (redrawn w1 p'.d) p'.os = V at *
    obtain ⟨R0, R1, R2, R3⟩ := R.kept B2
    replace B := below1 B B2
    clear B2 c1 k0 k1 P N
    go_wp2
    refine bodyPost_ret (v := .tuple #[.agg #[.int .i64 (-a), .int .i64 f], .bool true]) (by simp [results, Tryd.results33, go_sem, *]) rfl ⟨rfl, ?_⟩
    exact below_set2 B (by omega) _ _
end SK
end Go.Proofs.YtfdkpcejjcifgamDoor
