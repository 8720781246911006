/-
  The draws of chapter 22: a way, and an angle.
-/
import Derived.Test.YtiidbbnclhknpaaRows
import Derived.Test.YtiidbbnclhknpaaDrawKit
import Derived.Test.YtiidbbnclhknpaaDrawWalks
import Derived.Test.YtiidbbnclhknpaaDrawBig
import Derived.Test.YtiidbbnclhknpaaDrawSine
import Derived.WalkKit
import Derived.OwnWalk
import Derived.Below
namespace Go.Proofs.Ytiidbbnclhknpaa
open Go.RowKit
set_option linter.unusedVariables false
namespace DW
open DK
theorem drawTurnLong_any (w : World) (a : Option Addr) (len cap : Nat) (h : Src w a len cap) :
    Calls Try.prog 7 #[.slice a len cap] w fun e w' => ∃ v u : Int, e = .returned (.tuple #[.int .i64 v, .int .i64 u]) ∧ -500000003 ≤ v ∧ v ≤ 500000003 ∧ -500000003 ≤ u ∧ u ≤ 500000003 ∧ Below w.heap.size w w' := by
  go_enter Try.func7, Try.ntmps7
  go_wp2_with fail
  refine (l6Open_any _ _ _ _ h).mono ?_
  rintro e w1 ⟨rfl, R1, B1⟩
  go_wp2_with fail
  refine (l71Big_any _ _ _ _ (by omega) R1 (by omega) (by omega)).mono ?_
  rintro e w2 ⟨v, p2, rfl, v0, v1, q2, R2, T2⟩
  have B2 := B1.trans (T2.toBelow B1.size (by omega))
  clear B1 T2 R1
  go_wp2_with fail
  refine (pick_any _ _ _ _ (by omega) R2).mono ?_
  rintro e w3 ⟨s, rfl, s0, s1, R3, T3⟩
  have B3 := B2.trans (T3.toBelow B2.size (by omega))
  clear B2 T3 R2 s1
  by_cases z : s = 0
  · subst z
    go_wp2_with fail
    refine (l71Big_any _ _ _ _ (by omega) R3 (by omega) (by omega)).mono ?_
    rintro e w4 ⟨u, p4, rfl, u0, u1, q4, R4, T4⟩
    have B4 := B3.trans (T4.toBelow B3.size (by omega))
    clear B3 T4 R3
    go_wp2
    go_ret2
    exact ⟨_, u, rfl, by omega, by omega, by omega, by omega, B4⟩
  · have e0 : (s == 0) = false := by simp; omega
    go_wp2_with fail
    refine (l71Big_any _ _ _ _ (by omega) R3 (by omega) (by omega)).mono ?_
    rintro e w4 ⟨u, p4, rfl, u0, u1, q4, R4, T4⟩
    have B4 := B3.trans (T4.toBelow B3.size (by omega))
    clear B3 T4 R3
    go_wp2
    go_ret2
    exact ⟨v, u, rfl, by omega, by omega, by omega, by omega, B4⟩
theorem drawTurnBy_any (w : World) (a : Option Addr) (len cap : Nat) (h : Src w a len cap) :
    Calls Try.prog 10 #[.slice a len cap] w fun e w' => ∃ v u t : Int, e = .returned (.tuple #[.int .i64 v, .int .i64 u, .int .i64 t]) ∧ -500000003 ≤ v ∧ v ≤ 500000003 ∧ -500000003 ≤ u ∧ u ≤ 500000003 ∧ -1000000000010 ≤ t ∧ t ≤ 1000000000010 ∧ Below w.heap.size w w' := by
  go_enter Try.func10, Try.ntmps10
  go_wp2_with fail
  refine (l6Open_any _ _ _ _ h).mono ?_
  rintro e w1 ⟨rfl, R1, B1⟩
  go_wp2_with fail
  refine (l71Big_any _ _ _ _ (by omega) R1 (by omega) (by omega)).mono ?_
  rintro e w2 ⟨v, p2, rfl, v0, v1, q2, R2, T2⟩
  have B2 := B1.trans (T2.toBelow B1.size (by omega))
  clear B1 T2 R1
  go_wp2_with fail
  refine (pick_any _ _ _ _ (by omega) R2).mono ?_
  rintro e w3 ⟨s, rfl, s0, s1, R3, T3⟩
  have B3 := B2.trans (T3.toBelow B2.size (by omega))
  clear B2 T3 R2 s1
  by_cases z : s = 0
  · subst z
    go_wp2_with fail
    refine (l71Big_any _ _ _ _ (by omega) R3 (by omega) (by omega)).mono ?_
    rintro e w4 ⟨u, p4, rfl, u0, u1, q4, R4, T4⟩
    have B4 := B3.trans (T4.toBelow B3.size (by omega))
    clear B3 T4 R3
    go_wp2_with fail
    refine (l71Wide_any _ _ _ (by omega) R4).mono ?_
    rintro e w5 ⟨t, p5, rfl, t0, t1, q5, R5, T5⟩
    have B5 := B4.trans (T5.toBelow B4.size (by omega))
    clear B4 T5 R4
    go_wp2
    go_ret3
    exact ⟨_, u, t, rfl, by omega, by omega, by omega, by omega, t0, t1, B5⟩
  · have e0 : (s == 0) = false := by simp; omega
    go_wp2_with fail
    refine (l71Big_any _ _ _ _ (by omega) R3 (by omega) (by omega)).mono ?_
    rintro e w4 ⟨u, p4, rfl, u0, u1, q4, R4, T4⟩
    have B4 := B3.trans (T4.toBelow B3.size (by omega))
    clear B3 T4 R3
    go_wp2_with fail
    refine (l71Wide_any _ _ _ (by omega) R4).mono ?_
    rintro e w5 ⟨t, p5, rfl, t0, t1, q5, R5, T5⟩
    have B5 := B4.trans (T5.toBelow B4.size (by omega))
    clear B4 T5 R4
    go_wp2
    go_ret3
    exact ⟨v, u, t, rfl, by omega, by omega, by omega, by omega, t0, t1, B5⟩
end DW
end Go.Proofs.Ytiidbbnclhknpaa
