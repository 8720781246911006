/-
  What the functions on fans return: FanHas, and the specification's FanRound.
-/
import Derived.Test.YtfdkpcejjcifgauGreatDoorSineKit
import Derived.Test.YtfdkpcejjcifgauGreatDoorNumLaws
import Derived.Test.YtfdkpcejjcifgauGreatDoorSpanMath
namespace Go.Proofs.YtfdkpcejjcifgauGreatDoor
open Go.RowKit Go.Sort
set_option linter.unusedVariables false
namespace SK
/-- Whether a fan is ok, and an angle in it. -/
def okF (l h : Int) : Bool := NM.inB l (-129600000) 129600000 && NM.inB h l 129600000
theorem okF_of {l h : Int} (e : okF l h = true) : -129600000 ≤ l ∧ l ≤ h ∧ h ≤ 129600000 := by
  unfold okF at e
  rw [Bool.and_eq_true] at e
  have a : -129600000 ≤ l ∧ l ≤ 129600000 := of_decide_eq_true e.1
  have b : l ≤ h ∧ h ≤ 129600000 := of_decide_eq_true e.2
  omega
theorem okF_mk {l h : Int} (a : -129600000 ≤ l) (b : l ≤ h) (c : h ≤ 129600000) : okF l h = true := by
  have d1 : NM.inB l (-129600000) 129600000 = true := decide_eq_true (p := -129600000 ≤ l ∧ l ≤ 129600000) ⟨a, by omega⟩
  have d2 : NM.inB h l 129600000 = true := decide_eq_true (p := l ≤ h ∧ h ≤ 129600000) ⟨b, c⟩
  unfold okF
  rw [d1, d2]
  rfl
theorem l13Ok_any (l h : Int) (w : World) : Calls Tryz.prog 14 #[spV l h] w fun e w' => e = .returned (.bool (okF l h)) ∧ Below w.heap.size w w' := by
  have K1 := fun w => NW.l6In_any l (-129600000) 129600000 w
  have K2 := fun w => NW.l6In_any h l 129600000 w
  have E : Hide (okF l h = (NM.inB l (-129600000) 129600000 && NM.inB h l 129600000)) := ⟨rfl⟩
  generalize NM.inB l (-129600000) 129600000 = a at *
  generalize NM.inB h l 129600000 = b at *
  cases a
  · go_enter Tryz.func14, Tryz.ntmps14
    go_wp2_with fail
    refine (K1 _).mono ?_
    rintro e w' ⟨rfl, rfl⟩
    go_wp2
    go_ret
    exact ⟨NW.ret_bool (by rw [E.out]; rfl), below_new _ _⟩
  · go_enter Tryz.func14, Tryz.ntmps14
    go_wp2_with fail
    refine (K1 _).mono ?_
    rintro e w' ⟨rfl, rfl⟩
    go_wp2_with fail
    refine (K2 _).mono ?_
    rintro e w' ⟨rfl, rfl⟩
    go_wp2
    go_ret
    exact ⟨NW.ret_bool (by rw [E.out, Bool.true_and]), below_new _ _⟩
/-- What a fan is surely rounded to. -/
def frB (l h p y : Int) : Bool := okF l h && (NM.inB p 1 129600000 && (NM.wayB y && (NM.rnd l p y == NM.rnd h p y)))
def frV (l h p y : Int) : Int := SM.sel (frB l h p y) (NM.rnd l p y)
theorem fr_no {l h p y : Int} (e : frB l h p y = false) : frV l h p y = 0 := by unfold frV; rw [e]; rfl
theorem fr_yes {l h p y : Int} (e : frB l h p y = true) : frV l h p y = NM.rnd l p y := by unfold frV; rw [e]; rfl
theorem sFanRound_any (l h p y : Int) (w : World) : Calls Tryz.prog 8 #[spV l h, .int .i64 p, .int .i64 y] w fun e w' => e = .returned (.tuple #[.int .i64 (frV l h p y), .bool (frB l h p y)]) ∧ Below w.heap.size w w' := by
  have K1 := fun w => l13Ok_any l h w
  have K2 := fun w => NW.l6In_any p 1 129600000 w
  have K3 := fun w => (show Calls Tryz.prog 15 #[.int .i64 y, .int .i64 1, .int .i64 4] w fun e w' => e = .returned (.bool (NM.wayB y)) ∧ w' = w from NW.l6In_any y 1 4 w)
  cases h1 : okF l h
  · have e : frB l h p y = false := by unfold frB; rw [h1]; rfl
    rw [fr_no e, e]
    rw [h1] at K1
    clear e
    go_enter Tryz.func8, Tryz.ntmps8
    go_wp2_with fail
    refine (K1 _).mono ?_
    rintro e w1 ⟨rfl, B1⟩
    go_wp2
    go_ret2
    exact ⟨rfl, below1 (below_new _ _) B1⟩
  · obtain ⟨f1, f2, f3⟩ := okF_of h1
    rw [h1] at K1
    cases h2 : NM.inB p 1 129600000
    · have e : frB l h p y = false := by unfold frB; rw [h1, h2]; rfl
      rw [fr_no e, e]
      rw [h2] at K2
      clear e
      go_enter Tryz.func8, Tryz.ntmps8
      go_wp2_with fail
      refine (K1 _).mono ?_
      rintro e w1 ⟨rfl, B1⟩
      go_wp2_with fail
      refine (K2 _).mono ?_
      rintro e w' ⟨rfl, rfl⟩
      go_wp2
      go_ret2
      exact ⟨rfl, below1 (below_new _ _) B1⟩
    · have q : 1 ≤ p ∧ p ≤ 129600000 := of_decide_eq_true h2
      obtain ⟨q1, q2⟩ := q
      rw [h2] at K2
      cases h3 : NM.wayB y
      · have e : frB l h p y = false := by unfold frB; rw [h1, h2, h3]; rfl
        rw [fr_no e, e]
        rw [h3] at K3
        clear e
        go_enter Tryz.func8, Tryz.ntmps8
        go_wp2_with fail
        refine (K1 _).mono ?_
        rintro e w1 ⟨rfl, B1⟩
        go_wp2_with fail
        refine (K2 _).mono ?_
        rintro e w' ⟨rfl, rfl⟩
        go_wp2_with fail
        refine (K3 _).mono ?_
        rintro e w' ⟨rfl, rfl⟩
        go_wp2
        go_ret2
        exact ⟨rfl, below1 (below_new _ _) B1⟩
      · have e : frB l h p y = (NM.rnd l p y == NM.rnd h p y) := by unfold frB; rw [h1, h2, h3]; rfl
        have R1 := fun w => NW.l1Round_any l p y w (by omega) (by omega) q1 (by omega) h3
        have R2 := fun w => NW.l1Round_any h p y w (by omega) (by omega) q1 (by omega) h3
        rw [h3] at K3
        have FV : Hide (frV l h p y = SM.sel (frB l h p y) (NM.rnd l p y)) := ⟨rfl⟩
        rw [FV.out, e]
        clear e FV
        generalize NM.rnd l p y = a at *
        generalize NM.rnd h p y = b at *
        by_cases ab : a = b
        · subst ab
          simp only [beq_self_eq_true, SM.sel]
          go_enter Tryz.func8, Tryz.ntmps8
          go_wp2_with fail
          refine (K1 _).mono ?_
          rintro e w1 ⟨rfl, B1⟩
          have X := (Box.new w l h 30).kept B1
          obtain ⟨x0, x1, x2, x3⟩ := X
          go_wp2_with fail
          refine (K2 _).mono ?_
          rintro e w' ⟨rfl, rfl⟩
          go_wp2_with fail
          refine (K3 _).mono ?_
          rintro e w' ⟨rfl, rfl⟩
          go_wp2_with fail
          refine (R1 _).mono ?_
          rintro e w' ⟨rfl, rfl⟩
          go_wp2_with fail
          refine (R2 _).mono ?_
          rintro e w' ⟨rfl, rfl⟩
          go_wp2
          go_ret2
          exact ⟨rfl, below1 (below_new _ _) B1⟩
        · have ne : (a == b) = false := by simpa using ab
          simp only [ne, SM.sel]
          go_enter Tryz.func8, Tryz.ntmps8
          go_wp2_with fail
          refine (K1 _).mono ?_
          rintro e w1 ⟨rfl, B1⟩
          have X := (Box.new w l h 30).kept B1
          obtain ⟨x0, x1, x2, x3⟩ := X
          go_wp2_with fail
          refine (K2 _).mono ?_
          rintro e w' ⟨rfl, rfl⟩
          go_wp2_with fail
          refine (K3 _).mono ?_
          rintro e w' ⟨rfl, rfl⟩
          go_wp2_with fail
          refine (R1 _).mono ?_
          rintro e w' ⟨rfl, rfl⟩
          go_wp2_with fail
          refine (R2 _).mono ?_
          rintro e w' ⟨rfl, rfl⟩
          go_wp2
          go_ret2
          exact ⟨rfl, below1 (below_new _ _) B1⟩
/-- Whether an angle is in a fan. -/
def hasF (l h a : Int) : Bool := okF l h && NM.inB a l h
theorem hasF_mk {l h a : Int} (e : okF l h = true) (h1 : l ≤ a) (h2 : a ≤ h) : hasF l h a = true := by
  have d : NM.inB a l h = true := decide_eq_true (p := l ≤ a ∧ a ≤ h) ⟨h1, h2⟩
  unfold hasF
  rw [e, d]
  rfl
theorem hasF_of {l h a : Int} (e : hasF l h a = true) : okF l h = true ∧ l ≤ a ∧ a ≤ h := by
  unfold hasF at e
  rw [Bool.and_eq_true] at e
  exact ⟨e.1, of_decide_eq_true e.2⟩
theorem isTurn_any (a : Int) (w : World) : Calls Tryz.prog 51 #[.int .i64 a] w fun e w' => e = .returned (.bool (NM.inB a (-129600000) 129600000)) ∧ w' = w := by
  by_cases h1 : -129600000 ≤ a
  · by_cases h2 : a ≤ 129600000
    · have H : Hide (true = NM.inB a (-129600000) 129600000) := ⟨(decide_eq_true ⟨h1, h2⟩).symm⟩
      go_enter Tryz.func51, Tryz.ntmps51
      go_wp2
      go_ret
      exact ⟨NW.ret_bool H.out, rfl⟩
    · have H : Hide (false = NM.inB a (-129600000) 129600000) := ⟨(decide_eq_false (fun h => h2 h.2)).symm⟩
      go_enter Tryz.func51, Tryz.ntmps51
      go_wp2
      go_ret
      exact ⟨NW.ret_bool H.out, rfl⟩
  · have H : Hide (false = NM.inB a (-129600000) 129600000) := ⟨(decide_eq_false (fun h => h1 h.1)).symm⟩
    go_enter Tryz.func51, Tryz.ntmps51
    go_wp2
    go_ret
    exact ⟨NW.ret_bool H.out, rfl⟩
theorem isOkF_any (l h : Int) (w : World) : Calls Tryz.prog 23 #[spV l h] w fun e w' => e = .returned (.bool (okF l h)) ∧ Below w.heap.size w w' := by
  have K1 := fun w => isTurn_any l w
  have K2 := fun w => isTurn_any h w
  cases h1 : NM.inB l (-129600000) 129600000
  · have E : Hide (false = okF l h) := ⟨by unfold okF; rw [h1]; rfl⟩
    rw [h1] at K1
    clear h1
    go_enter Tryz.func23, Tryz.ntmps23
    go_wp2_with fail
    refine (K1 _).mono ?_
    rintro e w' ⟨rfl, rfl⟩
    go_wp2
    go_ret
    exact ⟨NW.ret_bool E.out, below_new _ _⟩
  · have q1 : -129600000 ≤ l ∧ l ≤ 129600000 := of_decide_eq_true h1
    rw [h1] at K1
    cases h2 : NM.inB h (-129600000) 129600000
    · have q2 : ¬ (-129600000 ≤ h ∧ h ≤ 129600000) := of_decide_eq_false h2
      have E : Hide (false = okF l h) := ⟨by unfold okF; rw [h1, show NM.inB h l 129600000 = false from decide_eq_false (by omega)]; rfl⟩
      rw [h2] at K2
      clear h1 h2
      go_enter Tryz.func23, Tryz.ntmps23
      go_wp2_with fail
      refine (K1 _).mono ?_
      rintro e w' ⟨rfl, rfl⟩
      go_wp2_with fail
      refine (K2 _).mono ?_
      rintro e w' ⟨rfl, rfl⟩
      go_wp2
      go_ret
      exact ⟨NW.ret_bool E.out, below_new _ _⟩
    · have q2 : -129600000 ≤ h ∧ h ≤ 129600000 := of_decide_eq_true h2
      rw [h2] at K2
      clear h1 h2
      by_cases z : l ≤ h
      · have E : Hide (true = okF l h) := ⟨(okF_mk q1.1 z q2.2).symm⟩
        go_enter Tryz.func23, Tryz.ntmps23
        go_wp2_with fail
        refine (K1 _).mono ?_
        rintro e w' ⟨rfl, rfl⟩
        go_wp2_with fail
        refine (K2 _).mono ?_
        rintro e w' ⟨rfl, rfl⟩
        go_wp2
        go_ret
        exact ⟨NW.ret_bool (by first | exact E.out | exact (decide_eq_true z).trans E.out), below_new _ _⟩
      · have E : Hide (false = okF l h) := ⟨by
          cases e : okF l h with
          | false => rfl
          | true => exact absurd (okF_of e).2.1 z⟩
        go_enter Tryz.func23, Tryz.ntmps23
        go_wp2_with fail
        refine (K1 _).mono ?_
        rintro e w' ⟨rfl, rfl⟩
        go_wp2_with fail
        refine (K2 _).mono ?_
        rintro e w' ⟨rfl, rfl⟩
        go_wp2
        go_ret
        exact ⟨NW.ret_bool (by first | exact E.out | exact (decide_eq_false (by omega)).trans E.out), below_new _ _⟩
end SK
end Go.Proofs.YtfdkpcejjcifgauGreatDoor
