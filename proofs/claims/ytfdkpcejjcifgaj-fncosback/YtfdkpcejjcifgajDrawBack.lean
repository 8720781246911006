/-
  The draws of chapter 13: numbers that may be sines, places.
-/
import Derived.Test.YtfdkpcejjcifgajRows
import Derived.Test.YtfdkpcejjcifgajDrawKit
import Derived.Test.YtfdkpcejjcifgajDrawWalks
import Derived.Test.YtfdkpcejjcifgajDrawBig
import Derived.WalkKit
import Derived.Below
namespace Go.Proofs.Ytfdkpcejjcifgaj
open Go.RowKit
set_option linter.unusedVariables false

namespace DW
open DK

set_option maxHeartbeats 2000000 in
theorem l71Sine_any (w : World) (k p : Nat) (hp : p ≤ 800000000) (h : Rd w k p) :
    Calls Try.prog 33 #[.pointer (some ⟨k, 0, none⟩)] w fun e w' => ∃ v : Int, ∃ p' : Nat, e = .returned (.int .i64 v) ∧ -1000000010 ≤ v ∧ v ≤ 1000000010 ∧ p' ≤ p + 30 ∧ Rd w' k p' ∧ Tch k w.heap.size w w' := by
  go_enter Try.func33, Try.ntmps33
  go_wp2_with fail
  refine (pick_any _ k p _ (by omega) h).mono ?_
  rintro e w1 ⟨v, rfl, v0, v1, R1, T1⟩
  replace v1 := v1 (by omega)
  clear h
  rcases (show v = 0 ∨ v = 1 ∨ 2 ≤ v by omega) with rfl | rfl | v2
  · go_wp2_with fail
    refine (pick_any _ k _ _ (by omega) (R1.kept ((Below.refl _ _).alloc (Nat.le_refl _) _))).mono ?_
    rintro e w2 ⟨u, rfl, u0, u1, R2, T2⟩
    replace u1 := u1 (by omega)
    have hk := R1.lt
    have T3 := (T1.alloc T1.size _).trans (T2.mono (by simp; have := T1.size; omega))
    rcases (show u = 0 ∨ u = 1 ∨ u = 2 ∨ u = 3 ∨ u = 4 ∨ u = 5 ∨ u = 6 by omega) with rfl | rfl | rfl | rfl | rfl | rfl | rfl
    · have hc : w2.cell? ⟨w1.heap.size, 0, none⟩ = some (.int .i64 1000000000) := by rw [T2.cell (by simp) (by omega)]; simp [go_sem]
      go_wp2_with fail
      go_ret
      exact ⟨_, _, rfl, by omega, by omega, by omega, R2, T3⟩
    · have hc : w2.cell? ⟨w1.heap.size, 1, none⟩ = some (.int .i64 (-1000000000)) := by rw [T2.cell (by simp) (by omega)]; simp [go_sem]
      go_wp2_with fail
      go_ret
      exact ⟨_, _, rfl, by omega, by omega, by omega, R2, T3⟩
    · have hc : w2.cell? ⟨w1.heap.size, 2, none⟩ = some (.int .i64 500000000) := by rw [T2.cell (by simp) (by omega)]; simp [go_sem]
      go_wp2_with fail
      go_ret
      exact ⟨_, _, rfl, by omega, by omega, by omega, R2, T3⟩
    · have hc : w2.cell? ⟨w1.heap.size, 3, none⟩ = some (.int .i64 (-500000000)) := by rw [T2.cell (by simp) (by omega)]; simp [go_sem]
      go_wp2_with fail
      go_ret
      exact ⟨_, _, rfl, by omega, by omega, by omega, R2, T3⟩
    · have hc : w2.cell? ⟨w1.heap.size, 4, none⟩ = some (.int .i64 0) := by rw [T2.cell (by simp) (by omega)]; simp [go_sem]
      go_wp2_with fail
      go_ret
      exact ⟨_, _, rfl, by omega, by omega, by omega, R2, T3⟩
    · have hc : w2.cell? ⟨w1.heap.size, 5, none⟩ = some (.int .i64 1000000001) := by rw [T2.cell (by simp) (by omega)]; simp [go_sem]
      go_wp2_with fail
      go_ret
      exact ⟨_, _, rfl, by omega, by omega, by omega, R2, T3⟩
    · have hc : w2.cell? ⟨w1.heap.size, 6, none⟩ = some (.int .i64 (-1000000001)) := by rw [T2.cell (by simp) (by omega)]; simp [go_sem]
      go_wp2_with fail
      go_ret
      exact ⟨_, _, rfl, by omega, by omega, by omega, R2, T3⟩
  · go_wp2_with fail
    refine (pick_any _ k (p + 1) _ (by omega) R1).mono ?_
    rintro e w2 ⟨u, rfl, u0, u1, R2, T2⟩
    replace u1 := u1 (by omega)
    have T3 := T1.trans (T2.mono T1.size)
    clear T1 T2 R1
    go_wp2_with fail
    go_ret
    exact ⟨_, _, rfl, by omega, by omega, by omega, R2, T3⟩
  · have e0 : (v == 0) = false := by simp; omega
    have e1 : (v == 1) = false := by simp; omega
    go_wp2_with fail
    refine (l71Big_any _ k (p + 1) _ (by omega) R1 (by omega) (by omega)).mono ?_
    rintro e w2 ⟨u, p2, rfl, u0, u1, q2, R2, T2⟩
    have T3 := T1.trans (T2.mono T1.size)
    clear T1 T2 R1
    go_wp2_with fail
    go_ret
    exact ⟨_, _, rfl, by omega, by omega, by omega, R2, T3⟩
theorem drawSineBack_any (w : World) (a : Option Addr) (len cap : Nat) (h : Src w a len cap) :
    Calls Try.prog 13 #[.slice a len cap] w fun e w' => ∃ v : Int, e = .returned (.int .i64 v) ∧ -1000000010 ≤ v ∧ v ≤ 1000000010 ∧ Below w.heap.size w w' := by
  go_enter Try.func13, Try.ntmps13
  go_wp2_with fail
  refine (l6Open_any _ _ _ _ h).mono ?_
  rintro e w1 ⟨rfl, R1, B1⟩
  go_wp2_with fail
  refine (l71Sine_any _ _ _ (by omega) R1).mono ?_
  rintro e w2 ⟨v, p2, rfl, v0, v1, q2, R2, T2⟩
  have B2 := B1.trans (T2.toBelow B1.size (by omega))
  clear B1 T2 R1
  go_wp2
  go_ret
  exact ⟨v, rfl, v0, v1, B2⟩
theorem drawCosBack_any (w : World) (a : Option Addr) (len cap : Nat) (h : Src w a len cap) :
    Calls Try.prog 19 #[.slice a len cap] w fun e w' => ∃ v : Int, e = .returned (.int .i64 v) ∧ -1000000010 ≤ v ∧ v ≤ 1000000010 ∧ Below w.heap.size w w' := by
  go_enter Try.func19, Try.ntmps19
  go_wp2_with fail
  refine (l6Open_any _ _ _ _ h).mono ?_
  rintro e w1 ⟨rfl, R1, B1⟩
  go_wp2_with fail
  refine (l71Sine_any _ _ _ (by omega) R1).mono ?_
  rintro e w2 ⟨v, p2, rfl, v0, v1, q2, R2, T2⟩
  have B2 := B1.trans (T2.toBelow B1.size (by omega))
  clear B1 T2 R1
  go_wp2
  go_ret
  exact ⟨v, rfl, v0, v1, B2⟩
end DW
end Go.Proofs.Ytfdkpcejjcifgaj
