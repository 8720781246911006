/-
  The draws of chapter 12: angles.
-/
import Derived.Test.YtiidbbnclhknpaaDoorRows
import Derived.Test.YtiidbbnclhknpaaDoorDrawKit
import Derived.Test.YtiidbbnclhknpaaDoorDrawWalks
import Derived.Test.YtiidbbnclhknpaaDoorDrawBig
import Derived.WalkKit
import Derived.Below
namespace Go.Proofs.YtiidbbnclhknpaaDoor
open Go.RowKit
set_option linter.unusedVariables false

namespace DW
open DK

theorem tdiv6 (x : Int) (h0 : -777600000 ≤ x) (h1 : x ≤ 777600000) : -129600000 ≤ x.tdiv 6 ∧ x.tdiv 6 ≤ 129600000 := by
  rcases Int.le_total 0 x with h | h
  · rw [Int.tdiv_eq_ediv_of_nonneg h]
    omega
  · obtain ⟨y, rfl⟩ : ∃ y, x = -y := ⟨-x, by omega⟩
    rw [Int.neg_tdiv, Int.tdiv_eq_ediv_of_nonneg (by omega)]
    omega
theorem l71Ang_any (w : World) (k p : Nat) (hp : p ≤ 850000000) (h : Rd w k p) :
    Calls Tryd.prog 32 #[.pointer (some ⟨k, 0, none⟩)] w fun e w' => ∃ v : Int, ∃ p' : Nat, e = .returned (.int .i64 v) ∧ -194400010 ≤ v ∧ v ≤ 194400010 ∧ p' ≤ p + 20 ∧ Rd w' k p' ∧ Tch k w.heap.size w w' := by
  go_enter Tryd.func32, Tryd.ntmps32
  go_wp2_with fail
  refine (pick_any _ k p _ (by omega) h).mono ?_
  rintro e w1 ⟨v, rfl, v0, v1, R1, T1⟩
  replace v1 := v1 (by omega)
  clear h
  rcases (show v = 0 ∨ v = 1 ∨ v = 2 ∨ 3 ≤ v by omega) with rfl | rfl | rfl | v2
  · go_wp2_with fail
    refine (pick_any _ k (p + 1) _ (by omega) R1).mono ?_
    rintro e w2 ⟨u, rfl, u0, u1, R2, T2⟩
    replace u1 := u1 (by omega)
    have T3 := T1.trans (T2.mono T1.size)
    clear T1 T2 R1
    obtain ⟨q0, q1⟩ := tdiv6 ((u - 24) * 32400000) (by omega) (by omega)
    go_wp2_with fail
    go_ret
    exact ⟨_, _, rfl, by omega, by omega, by omega, R2, T3⟩
  · go_wp2_with fail
    refine (pick_any _ k (p + 1) _ (by omega) R1).mono ?_
    rintro e w2 ⟨u, rfl, u0, u1, R2, T2⟩
    replace u1 := u1 (by omega)
    have T3 := T1.trans (T2.mono T1.size)
    clear T1 T2 R1
    go_wp2_with fail
    go_ret
    exact ⟨_, _, rfl, by omega, by omega, by omega, R2, T3⟩
  · go_wp2_with fail
    refine (pick_any _ k (p + 1) _ (by omega) R1).mono ?_
    rintro e w2 ⟨u, rfl, u0, u1, R2, T2⟩
    replace u1 := u1 (by omega)
    have T3 := T1.trans (T2.mono T1.size)
    clear T1 T2 R1
    go_wp2_with fail
    refine (pick_any _ k _ _ (by omega) R2).mono ?_
    rintro e w3 ⟨s, rfl, s0, s1, R3, T4⟩
    replace s1 := s1 (by omega)
    have T5 := T3.trans (T4.mono T3.size)
    clear T3 T4 R2
    go_wp2_with fail
    go_ret
    exact ⟨_, _, rfl, by omega, by omega, by omega, R3, T5⟩
  · have e0 : (v == 0) = false := by simp; omega
    have e1 : (v == 1) = false := by simp; omega
    have e2 : (v == 2) = false := by simp; omega
    go_wp2_with fail
    refine (l71Big_any _ k (p + 1) _ (by omega) R1 (by omega) (by omega)).mono ?_
    rintro e w2 ⟨u, p2, rfl, u0, u1, q2, R2, T2⟩
    have T3 := T1.trans (T2.mono T1.size)
    clear T1 T2 R1
    go_wp2_with fail
    go_ret
    exact ⟨_, _, rfl, by omega, by omega, by omega, R2, T3⟩
theorem l71Wide_any (w : World) (k p : Nat) (hp : p ≤ 800000000) (h : Rd w k p) :
    Calls Tryd.prog 15 #[.pointer (some ⟨k, 0, none⟩)] w fun e w' => ∃ v : Int, ∃ p' : Nat, e = .returned (.int .i64 v) ∧ -1000000000010 ≤ v ∧ v ≤ 1000000000010 ∧ p' ≤ p + 30 ∧ Rd w' k p' ∧ Tch k w.heap.size w w' := by
  go_enter Tryd.func15, Tryd.ntmps15
  go_wp2_with fail
  refine (pick_any _ k p _ (by omega) h).mono ?_
  rintro e w1 ⟨v, rfl, v0, v1, R1, T1⟩
  replace v1 := v1 (by omega)
  clear h
  rcases (show v = 0 ∨ v = 1 ∨ 2 ≤ v by omega) with rfl | rfl | v2
  · go_wp2_with fail
    refine (l71Big_any _ k (p + 1) _ (by omega) R1 (by omega) (by omega)).mono ?_
    rintro e w2 ⟨u, p2, rfl, u0, u1, q2, R2, T2⟩
    have T3 := T1.trans (T2.mono T1.size)
    clear T1 T2 R1
    go_wp2_with fail
    go_ret
    exact ⟨_, _, rfl, by omega, by omega, by omega, R2, T3⟩
  · go_wp2_with fail
    refine (pick_any _ k _ _ (by omega) (R1.kept ((Below.refl _ _).alloc (Nat.le_refl _) _))).mono ?_
    rintro e w2 ⟨u, rfl, u0, u1, R2, T2⟩
    replace u1 := u1 (by omega)
    have hk := R1.lt
    have T3 := (T1.alloc T1.size _).trans (T2.mono (by simp; have := T1.size; omega))
    rcases (show u = 0 ∨ u = 1 ∨ u = 2 by omega) with rfl | rfl | rfl
    · have hc : w2.cell? ⟨w1.heap.size, 0, none⟩ = some (.int .i64 1000000000000) := by rw [T2.cell (by simp) (by omega)]; simp [go_sem]
      go_wp2_with fail
      go_ret
      exact ⟨_, _, rfl, by omega, by omega, by omega, R2, T3⟩
    · have hc : w2.cell? ⟨w1.heap.size, 1, none⟩ = some (.int .i64 1000000000001) := by rw [T2.cell (by simp) (by omega)]; simp [go_sem]
      go_wp2_with fail
      go_ret
      exact ⟨_, _, rfl, by omega, by omega, by omega, R2, T3⟩
    · have hc : w2.cell? ⟨w1.heap.size, 2, none⟩ = some (.int .i64 (-1000000000001)) := by rw [T2.cell (by simp) (by omega)]; simp [go_sem]
      go_wp2_with fail
      go_ret
      exact ⟨_, _, rfl, by omega, by omega, by omega, R2, T3⟩
  · have e0 : (v == 0) = false := by simp; omega
    have e1 : (v == 1) = false := by simp; omega
    go_wp2_with fail
    refine (l71Ang_any _ k (p + 1) (by omega) R1).mono ?_
    rintro e w2 ⟨u, p2, rfl, u0, u1, q2, R2, T2⟩
    have T3 := T1.trans (T2.mono T1.size)
    clear T1 T2 R1
    go_wp2_with fail
    go_ret
    exact ⟨_, _, rfl, by omega, by omega, by omega, R2, T3⟩
end DW
end Go.Proofs.YtiidbbnclhknpaaDoor
