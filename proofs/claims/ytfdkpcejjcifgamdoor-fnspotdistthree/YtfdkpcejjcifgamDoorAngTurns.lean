/-
  Whole turns taken away: what AngNorm and AngDiff answer, by the specification and by the program.
-/
import Derived.Test.YtfdkpcejjcifgamDoorRows
import Derived.Test.YtfdkpcejjcifgamDoorAngMath
import Derived.Test.YtfdkpcejjcifgamDoorNumWalks
import Derived.WalkKit
import Derived.Below
namespace Go.Proofs.YtfdkpcejjcifgamDoor
open Go.RowKit
set_option linter.unusedVariables false
namespace AW
open AM
/-- Hidden from the walk's simp. -/
structure Hide (p : Prop) : Prop where
  out : p
theorem ret_ib {a b : Int} {c d : Bool} (h : a = b) (g : c = d) : Ending.returned (.tuple #[.int .i64 a, .bool c]) = .returned (.tuple #[.int .i64 b, .bool d]) := by rw [h, g]
theorem down_turn (a : Int) : ∃ q, NM.down a 129600000 = q ∧ a - q * 129600000 = norm a := ⟨_, rfl, norm_down a⟩
theorem wo_any (a : Int) (w : World) (h1 : -3000000000000 ≤ a) (h2 : a ≤ 3000000000000) :
    Calls Tryd.prog 29 #[.int .i64 a] w fun e w' => e = .returned (.int .i64 (norm a)) ∧ w' = w := by
  have n := norm_in a
  obtain ⟨q, hq, e⟩ := down_turn a
  have D := NW.roundDown_any a 129600000
  rw [hq] at D
  have b1 : -30000 ≤ q := by omega
  have b2 : q ≤ 30000 := by omega
  have H := Hide.mk e
  clear e hq
  generalize norm a = x at *
  go_enter Tryd.func29, Tryd.ntmps29
  go_wp2_with fail
  refine (D _ (by omega) (by omega) (by omega) (by omega)).mono ?_
  rintro e w' ⟨rfl, rfl⟩
  go_wp2
  go_ret
  exact ⟨NW.ret_int H.out, rfl⟩
theorem isOk_any (a : Int) (w : World) :
    Calls Tryd.prog 28 #[.int .i64 a] w fun e w' => e = .returned (.bool (okA a)) ∧ w' = w := by
  by_cases h1 : -1000000000000 ≤ a
  · by_cases h2 : a ≤ 1000000000000
    · have H := Hide.mk (okA_mk h1 h2).symm
      go_enter Tryd.func28, Tryd.ntmps28
      go_wp2
      go_ret
      exact ⟨NW.ret_bool H.out, rfl⟩
    · have H := Hide.mk (okA_no (a := a) (by omega)).symm
      go_enter Tryd.func28, Tryd.ntmps28
      go_wp2
      go_ret
      exact ⟨NW.ret_bool H.out, rfl⟩
  · have H := Hide.mk (okA_no (a := a) (by omega)).symm
    go_enter Tryd.func28, Tryd.ntmps28
    go_wp2
    go_ret
    exact ⟨NW.ret_bool H.out, rfl⟩
theorem diffB_l {a b : Int} (h : okA a = false) : diffB a b = false := by simp [diffB, h]
theorem diffB_r {a b : Int} (h : okA b = false) : diffB a b = false := by simp [diffB, h]
theorem diffB_t {a b : Int} (h : okA a = true) (g : okA b = true) : diffB a b = true := by simp [diffB, h, g]
theorem diffV_f {a b : Int} (h : diffB a b = false) : 0 = diffV a b := by simp [diffV, h, sel]
theorem diffV_t {a b : Int} (h : diffB a b = true) : diff a b = diffV a b := by simp [diffV, h, sel]
theorem diff_n (a b : Int) : diff a b = if 64800000 < norm (b - a) then norm (b - a) - 129600000 else norm (b - a) := rfl
theorem diff_g {a b : Int} (h : 64800000 < norm (b - a)) : norm (b - a) - 129600000 = diff a b := by rw [diff_n, if_pos h]
theorem diff_l {a b : Int} (h : ¬ 64800000 < norm (b - a)) : norm (b - a) = diff a b := by rw [diff_n, if_neg h]
theorem diff_any (a b : Int) (w : World) :
    Calls Tryd.prog 12 #[.int .i64 a, .int .i64 b] w fun e w' => e = .returned (.tuple #[.int .i64 (diffV a b), .bool (diffB a b)]) ∧ w' = w := by
  cases h : okA a
  · have H := Hide.mk (diffV_f (b := b) (diffB_l h))
    have K := Hide.mk (diffB_l (b := b) h).symm
    go_enter Tryd.func12, Tryd.ntmps12
    go_wp2_with fail
    refine (isOk_any _ _).mono ?_
    rintro e w' ⟨rfl, rfl⟩
    go_wp2
    go_ret2
    exact ⟨ret_ib H.out K.out, rfl⟩
  · cases g : okA b
    · have H := Hide.mk (diffV_f (a := a) (diffB_r g))
      have K := Hide.mk (diffB_r (a := a) g).symm
      go_enter Tryd.func12, Tryd.ntmps12
      go_wp2_with fail
      refine (isOk_any _ _).mono ?_
      rintro e w' ⟨rfl, rfl⟩
      go_wp2_with fail
      refine (isOk_any _ _).mono ?_
      rintro e w' ⟨rfl, rfl⟩
      go_wp2
      go_ret2
      exact ⟨ret_ib H.out K.out, rfl⟩
    · have H := Hide.mk (diffV_t (diffB_t h g))
      have K := Hide.mk (diffB_t h g).symm
      obtain ⟨a1, a2⟩ := okA_of h
      obtain ⟨b1, b2⟩ := okA_of g
      have n := norm_in (b - a)
      by_cases c : 64800000 < norm (b - a)
      · have G := Hide.mk (diff_g c)
        go_enter Tryd.func12, Tryd.ntmps12
        go_wp2_with fail
        refine (isOk_any _ _).mono ?_
        rintro e w' ⟨rfl, rfl⟩
        go_wp2_with fail
        refine (isOk_any _ _).mono ?_
        rintro e w' ⟨rfl, rfl⟩
        go_wp2_with fail
        refine (wo_any _ _ (by omega) (by omega)).mono ?_
        rintro e w' ⟨rfl, rfl⟩
        go_wp2
        go_ret2
        exact ⟨ret_ib (G.out.trans H.out) K.out, rfl⟩
      · have G := Hide.mk (diff_l c)
        go_enter Tryd.func12, Tryd.ntmps12
        go_wp2_with fail
        refine (isOk_any _ _).mono ?_
        rintro e w' ⟨rfl, rfl⟩
        go_wp2_with fail
        refine (isOk_any _ _).mono ?_
        rintro e w' ⟨rfl, rfl⟩
        go_wp2_with fail
        refine (wo_any _ _ (by omega) (by omega)).mono ?_
        rintro e w' ⟨rfl, rfl⟩
        go_wp2
        go_ret2
        exact ⟨ret_ib (G.out.trans H.out) K.out, rfl⟩
theorem sNormIn_any (a : Int) (w : World) (h1 : -3000000000000 ≤ a) (h2 : a ≤ 3000000000000) :
    Calls Tryd.prog 59 #[.int .i64 a] w fun e w' => e = .returned (.int .i64 (norm a)) ∧ w' = w := by
  have n := norm_in a
  obtain ⟨q, hq, e⟩ := down_turn a
  have D := NW.l1Down_any a 129600000
  rw [hq] at D
  have b1 : -30000 ≤ q := by omega
  have b2 : q ≤ 30000 := by omega
  have H := Hide.mk e
  clear e hq
  generalize norm a = x at *
  go_enter Tryd.func59, Tryd.ntmps59
  go_wp2_with fail
  refine (D _ (by omega) (by omega) (by omega) (by omega)).mono ?_
  rintro e w' ⟨rfl, rfl⟩
  go_wp2
  go_ret
  exact ⟨NW.ret_int H.out, rfl⟩
end AW
end Go.Proofs.YtfdkpcejjcifgamDoor
