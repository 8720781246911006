/-
  What the program's FanRound returns.
-/
import Derived.Test.YtfdkpcejjcifgauGreatDoorFanWalks
import Derived.Test.YtfdkpcejjcifgauGreatDoorSureWalks
namespace Go.Proofs.YtfdkpcejjcifgauGreatDoor
open Go.RowKit Go.Sort
set_option linter.unusedVariables false
namespace SK
theorem fr_sure {l h p y : Int} (o : okF l h = true) (q : p ≤ 129600000) : frB l h p y = SR.sureB l h p y ∧ frV l h p y = SR.sureV l h p y := by
  obtain ⟨a, b, c⟩ := okF_of o
  have s : SM.okS l h = true := SM.okS_mk ⟨by omega, b, by omega⟩
  have i : NM.inB p 1 129600000 = NM.inB p 1 1000000000 := by
    unfold NM.inB
    by_cases z : 1 ≤ p
    · rw [decide_eq_true (show 1 ≤ p ∧ p ≤ 129600000 by omega), decide_eq_true (show 1 ≤ p ∧ p ≤ 1000000000 by omega)]
    · rw [decide_eq_false (show ¬ (1 ≤ p ∧ p ≤ 129600000) by omega), decide_eq_false (show ¬ (1 ≤ p ∧ p ≤ 1000000000) by omega)]
  have e : (NM.rnd l p y == NM.rnd h p y) = decide (NM.rnd l p y = NM.rnd h p y) := by
    by_cases z : NM.rnd l p y = NM.rnd h p y
    · rw [decide_eq_true z, z, beq_self_eq_true]
    · rw [decide_eq_false z]; simpa using z
  have k : frB l h p y = SR.sureB l h p y := by
    unfold frB SR.sureB SR.mayB
    rw [o, s, i, e]
    cases NM.inB p 1 1000000000 <;> cases NM.wayB y <;> simp
  refine ⟨k, ?_⟩
  unfold frV SR.sureV
  rw [k]
theorem fanRound_any (l h p y : Int) (a : Addr) (w : World) (hs : SW.Sn a w) : Calls Tryz.prog 10 #[spV l h, .int .i64 p, .int .i64 y] w fun e w' => e = .returned (.tuple #[.int .i64 (frV l h p y), .bool (frB l h p y)]) ∧ Below w.heap.size w w' := by
  have K1 := fun w => isOkF_any l h w
  cases h1 : okF l h
  · have e : frB l h p y = false := by unfold frB; rw [h1]; rfl
    rw [fr_no e, e]
    rw [h1] at K1
    clear e h1
    go_enter Tryz.func10, Tryz.ntmps10
    go_wp2_with fail
    refine (K1 _).mono ?_
    rintro e w1 ⟨rfl, B1⟩
    go_wp2
    go_ret2
    exact ⟨rfl, below1 (below_new _ _) B1⟩
  · rw [h1] at K1
    by_cases q : p ≤ 129600000
    · obtain ⟨e1, e2⟩ := fr_sure (y := y) h1 q
      rw [e1, e2]
      have S := fun w (hs : SW.Sn a w) => SW.sureRound_any l h p y a w hs
      generalize SR.sureV l h p y = v at *
      generalize SR.sureB l h p y = c at *
      clear e1 e2 h1
      have hs1 := hs.alloc (.cells #[.int .i64 l, .int .i64 h] 30)
      have X := Box.new w l h 30
      go_enter Tryz.func10, Tryz.ntmps10
      go_wp2_with fail
      refine (K1 _).mono ?_
      rintro e w1 ⟨rfl, B1⟩
      have hs2 := hs1.kept B1
      obtain ⟨x0, x1, x2, x3⟩ := X.kept B1
      go_wp2_with fail
      refine (S _ hs2).mono ?_
      rintro e w2 ⟨rfl, B2⟩
      clear x0 x1 x2 x3
      go_wp2
      go_ret2
      exact ⟨rfl, below1 (below1 (below_new _ _) B1) B2⟩
    · have e : frB l h p y = false := by unfold frB; rw [h1, show NM.inB p 1 129600000 = false from decide_eq_false (by omega)]; rfl
      rw [fr_no e, e]
      clear e h1
      go_enter Tryz.func10, Tryz.ntmps10
      go_wp2_with fail
      refine (K1 _).mono ?_
      rintro e w1 ⟨rfl, B1⟩
      go_wp2
      go_ret2
      exact ⟨rfl, below1 (below_new _ _) B1⟩
end SK
end Go.Proofs.YtfdkpcejjcifgauGreatDoor
