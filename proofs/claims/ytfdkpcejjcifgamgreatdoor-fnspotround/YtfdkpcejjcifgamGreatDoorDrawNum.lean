/-
  What the draws of chapter 1's arguments return: numbers, whatever the code.
-/
import Derived.Test.YtfdkpcejjcifgamGreatDoorRows
import Derived.Test.YtfdkpcejjcifgamGreatDoorDrawKit
import Derived.Test.YtfdkpcejjcifgamGreatDoorDrawWalks
import Derived.Test.YtfdkpcejjcifgamGreatDoorDrawBig
import Derived.WalkKit
import Derived.Below
import Derived.Deep.RegionWith
namespace Go.Proofs.YtfdkpcejjcifgamGreatDoor
open Go.RowKit
set_option linter.unusedVariables false

namespace DW
open DK

theorem at3 (a b c : Int) {u : Int} (h0 : 0 ≤ u) (h1 : u < 3) : ∃ z : Int, ([Value.int .i64 a, .int .i64 b, .int .i64 c] : List Value)[u.toNat]? = some (.int .i64 z) ∧ ∀ h : u.toNat < ([Value.int .i64 a, .int .i64 b, .int .i64 c] : List Value).length, ([Value.int .i64 a, .int .i64 b, .int .i64 c] : List Value)[u.toNat]'h = .int .i64 z := by
  rcases (show u = 0 ∨ u = 1 ∨ u = 2 by omega) with rfl | rfl | rfl
  · exact ⟨a, rfl, fun _ => rfl⟩
  · exact ⟨b, rfl, fun _ => rfl⟩
  · exact ⟨c, rfl, fun _ => rfl⟩
theorem at4 (a b c d : Int) {u : Int} (h0 : 0 ≤ u) (h1 : u < 4) : ∃ z : Int, ([Value.int .i64 a, .int .i64 b, .int .i64 c, .int .i64 d] : List Value)[u.toNat]? = some (.int .i64 z) ∧ ∀ h : u.toNat < ([Value.int .i64 a, .int .i64 b, .int .i64 c, .int .i64 d] : List Value).length, ([Value.int .i64 a, .int .i64 b, .int .i64 c, .int .i64 d] : List Value)[u.toNat]'h = .int .i64 z := by
  rcases (show u = 0 ∨ u = 1 ∨ u = 2 ∨ u = 3 by omega) with rfl | rfl | rfl | rfl
  · exact ⟨a, rfl, fun _ => rfl⟩
  · exact ⟨b, rfl, fun _ => rfl⟩
  · exact ⟨c, rfl, fun _ => rfl⟩
  · exact ⟨d, rfl, fun _ => rfl⟩

theorem l71Way_any (w : World) (k p : Nat) (hp : p ≤ 900000000) (h : Rd w k p) :
    Calls Tryz.prog 12 #[.pointer (some ⟨k, 0, none⟩)] w fun e w' => ∃ y : Int, ∃ p' : Nat, e = .returned (.int .i64 y) ∧ -1 ≤ y ∧ y ≤ 5 ∧ p' ≤ p + 10 ∧ Rd w' k p' ∧ Tch k w.heap.size w w' := by
  go_enter Tryz.func12, Tryz.ntmps12
  go_wp2_with fail
  refine (pick_any _ k p _ (by omega) h).mono ?_
  rintro e w1 ⟨v, rfl, v0, v1, R1, T1⟩
  replace v1 := v1 (by omega)
  clear h
  rcases (show v = 0 ∨ 1 ≤ v by omega) with rfl | v2
  · go_wp2_with fail
    refine (pick_any _ k _ _ (by omega) (R1.kept ((Below.refl _ _).alloc (Nat.le_refl _) _))).mono ?_
    rintro e w2 ⟨u, rfl, u0, u1, R2, T2⟩
    replace u1 := u1 (by omega)
    have hk := R1.lt
    have T3 := (T1.alloc T1.size _).trans (T2.mono (by simp; have := T1.size; omega))
    rcases (show u = 0 ∨ u = 1 ∨ u = 2 by omega) with rfl | rfl | rfl
    · have hc : w2.cell? ⟨w1.heap.size, 0, none⟩ = some (.int .i64 0) := by rw [T2.cell (by simp) (by omega)]; simp [go_sem]
      go_wp2_with fail
      go_ret
      exact ⟨_, _, rfl, by omega, by omega, by omega, R2, T3⟩
    · have hc : w2.cell? ⟨w1.heap.size, 1, none⟩ = some (.int .i64 5) := by rw [T2.cell (by simp) (by omega)]; simp [go_sem]
      go_wp2_with fail
      go_ret
      exact ⟨_, _, rfl, by omega, by omega, by omega, R2, T3⟩
    · have hc : w2.cell? ⟨w1.heap.size, 2, none⟩ = some (.int .i64 (-1)) := by rw [T2.cell (by simp) (by omega)]; simp [go_sem]
      go_wp2_with fail
      go_ret
      exact ⟨_, _, rfl, by omega, by omega, by omega, R2, T3⟩
  · have e0 : (v == 0) = false := by simp; omega
    go_wp2_with fail
    refine (pick_any _ k _ _ (by omega) R1).mono ?_
    rintro e w2 ⟨u, rfl, u0, u1, R2, T2⟩
    replace u1 := u1 (by omega)
    go_wp2_with fail
    go_ret
    exact ⟨_, _, rfl, by omega, by omega, by omega, R2, T1.trans (T2.mono T1.size)⟩

end DW
end Go.Proofs.YtfdkpcejjcifgamGreatDoor
