/-
  What the draws of numbers of the specification return: numbers, whatever the code.
-/
import Derived.Test.YtlkompbigpbefabRows
import Derived.Test.YtlkompbigpbefabDrawKit
import Derived.Test.YtlkompbigpbefabDrawWalks
import Derived.WalkKit
import Derived.Below
namespace Go.Proofs.Ytlkompbigpbefab
open Go.RowKit
set_option linter.unusedVariables false

namespace DW
open DK

/-- How great the number is behind so many rounds. -/
def Upto (x : Int) (j : Nat) : Prop := j = 0 ∧ x < 1 ∨ j = 1 ∧ x < 32768 ∨ j = 2 ∧ x < 1073741824 ∨ j = 3 ∧ x < 35184372088832 ∨ j = 4 ∧ x < 1152921504606846976

theorem upto_lt {x : Int} {j : Nat} (h : Upto x j) (hj : j < 4) : x < 35184372088832 := by unfold Upto at h; omega
theorem upto_end {x : Int} {j : Nat} (h : Upto x j) : x < 1152921504606846976 := by unfold Upto at h; omega
theorem upto_four {x : Int} {j : Nat} (h : Upto x j) : j ≤ 4 := by unfold Upto at h; omega
theorem upto_next {x u : Int} {j : Nat} (h : Upto x j) (hu : u < 32768) (hj : j < 4) : Upto (x * 32768 + u) (j + 1) := by unfold Upto at *; omega

theorem l71Big_any (w : World) (k p : Nat) (most : Int) (hp : p ≤ 900000000) (h : Rd w k p) (m0 : 0 ≤ most) (m1 : most ≤ 1152921504606846976) :
    Calls Try.prog 40 #[.pointer (some ⟨k, 0, none⟩), .int .i64 most] w fun e w' => ∃ v : Int, ∃ p' : Nat, e = .returned (.int .i64 v) ∧ -(most + 3) ≤ v ∧ v ≤ most + 3 ∧ p' ≤ p + 10 ∧ Rd w' k p' ∧ Tch k w.heap.size w w' := by
  go_enter Try.func40, Try.ntmps40
  go_wp2_with fail
  refine (pick_any _ k p _ (by omega) h).mono ?_
  rintro e w1 ⟨v, rfl, v0, v1, R1, T1⟩
  replace v1 := v1 (by omega)
  clear h
  rcases (show v = 0 ∨ v = 1 ∨ v = 2 ∨ 3 ≤ v by omega) with rfl | rfl | rfl | v2
  · go_wp2_with fail
    refine (pick_any _ k (p + 1) _ (by omega) R1).mono ?_
    rintro e w2 ⟨u, rfl, u0, u1, R2, T2⟩
    replace u1 := u1 (by omega)
    have T3 := T1.trans (T2.mono T1.size)
    clear T1 T2 R1
    by_cases hx : u - 3 < 0
    · go_wp2_with fail
      go_ret
      exact ⟨_, _, rfl, by omega, by omega, by omega, R2, T3⟩
    · have q0 : 0 ≤ (u - 3) % (most + 1) := Int.emod_nonneg _ (by omega)
      have q1 : (u - 3) % (most + 1) < most + 1 := Int.emod_lt_of_pos _ (by omega)
      go_wp2_with fail
      refine (pick_any _ k _ _ (by omega) R2).mono ?_
      rintro e w9 ⟨s, rfl, s0, s1, R9, T9⟩
      replace s1 := s1 (by omega)
      have T := (T3).trans (T9.mono (T3).size)
      rcases (show s = 0 ∨ s = 1 by omega) with rfl | rfl
      · go_wp2_with fail
        go_ret
        exact ⟨_, _, rfl, by omega, by omega, by omega, R9, T⟩
      · go_wp2_with fail
        go_ret
        exact ⟨_, _, rfl, by omega, by omega, by omega, R9, T⟩
  · go_wp2_with fail
    refine (pick_any _ k (p + 1) _ (by omega) R1).mono ?_
    rintro e w2 ⟨u, rfl, u0, u1, R2, T2⟩
    replace u1 := u1 (by omega)
    have T3 := T1.trans (T2.mono T1.size)
    clear T1 T2 R1
    by_cases hx : most - u < 0
    · go_wp2_with fail
      go_ret
      exact ⟨_, _, rfl, by omega, by omega, by omega, R2, T3⟩
    · have q0 : 0 ≤ (most - u) % (most + 1) := Int.emod_nonneg _ (by omega)
      have q1 : (most - u) % (most + 1) < most + 1 := Int.emod_lt_of_pos _ (by omega)
      go_wp2_with fail
      refine (pick_any _ k _ _ (by omega) R2).mono ?_
      rintro e w9 ⟨s, rfl, s0, s1, R9, T9⟩
      replace s1 := s1 (by omega)
      have T := (T3).trans (T9.mono (T3).size)
      rcases (show s = 0 ∨ s = 1 by omega) with rfl | rfl
      · go_wp2_with fail
        go_ret
        exact ⟨_, _, rfl, by omega, by omega, by omega, R9, T⟩
      · go_wp2_with fail
        go_ret
        exact ⟨_, _, rfl, by omega, by omega, by omega, R9, T⟩
  · go_wp2_with fail
    refine (pick_any _ k (p + 1) _ (by omega) R1).mono ?_
    rintro e w2 ⟨u, rfl, u0, u1, R2, T2⟩
    replace u1 := u1 (by omega)
    have T3 := T1.trans (T2.mono T1.size)
    clear T1 T2 R1
    by_cases hx : u < 0
    · go_wp2_with fail
      go_ret
      exact ⟨_, _, rfl, by omega, by omega, by omega, R2, T3⟩
    · have q0 : 0 ≤ (u) % (most + 1) := Int.emod_nonneg _ (by omega)
      have q1 : (u) % (most + 1) < most + 1 := Int.emod_lt_of_pos _ (by omega)
      go_wp2_with fail
      refine (pick_any _ k _ _ (by omega) R2).mono ?_
      rintro e w9 ⟨s, rfl, s0, s1, R9, T9⟩
      replace s1 := s1 (by omega)
      have T := (T3).trans (T9.mono (T3).size)
      rcases (show s = 0 ∨ s = 1 by omega) with rfl | rfl
      · go_wp2_with fail
        go_ret
        exact ⟨_, _, rfl, by omega, by omega, by omega, R9, T⟩
      · go_wp2_with fail
        go_ret
        exact ⟨_, _, rfl, by omega, by omega, by omega, R9, T⟩
  · have e0 : (v == 0) = false := by simp; omega
    have e1 : (v == 1) = false := by simp; omega
    have e2 : (v == 2) = false := by simp; omega
    go_wp2_with fail
    go_loopw [5, 6] (fun n i wx => ∃ x : Int, ∃ j : Nat, n = .int .i64 x ∧ i = .int .i64 j ∧ 0 ≤ x ∧ Upto x j ∧ Rd wx k (p + 1 + j) ∧ Tch k w.heap.size w wx) (fun _ i _ => (4 - intOf i).toNat)
    case atStart => exact ⟨0, 0, rfl, rfl, by omega, .inl ⟨rfl, by omega⟩, R1, T1⟩
    case round =>
      obtain ⟨x, j, rfl, rfl, x0, hU, R3, T3⟩ := hrel
      by_cases hj : j < 4
      · have hx := upto_lt hU hj
        have HU := hide hU
        clear hU
        go_wp2_with fail
        refine (pick_any _ k _ _ (by omega) R3).mono ?_
        rintro e w4 ⟨u, rfl, u0, u1, R4, T4⟩
        replace u1 := u1 (by omega)
        go_wp2_with fail
        go_roundw
        case rel => exact ⟨_, j + 1, rfl, by go_num, by omega, upto_next (unhide HU) u1 hj, R4, T3.trans (T4.mono T3.size)⟩
        case measure => simp [intOf]; omega
      · have hx := upto_end hU
        have hj4 := upto_four hU
        clear hU
        have q0 : 0 ≤ (x) % (most + 1) := Int.emod_nonneg _ (by omega)
        have q1 : (x) % (most + 1) < most + 1 := Int.emod_lt_of_pos _ (by omega)
        go_wp2_with fail
        refine (pick_any _ k _ _ (by omega) R3).mono ?_
        rintro e w9 ⟨s, rfl, s0, s1, R9, T9⟩
        replace s1 := s1 (by omega)
        have T := (T3).trans (T9.mono (T3).size)
        rcases (show s = 0 ∨ s = 1 by omega) with rfl | rfl
        · go_wp2_with fail
          go_ret
          exact ⟨_, _, rfl, by omega, by omega, by omega, R9, T⟩
        · go_wp2_with fail
          go_ret
          exact ⟨_, _, rfl, by omega, by omega, by omega, R9, T⟩

end DW
end Go.Proofs.Ytlkompbigpbefab
