/-
  The draws of the laws of places.
-/
import Derived.Test.YtfdkpcejjcifgamDoorDrawFan
import Derived.Test.YtfdkpcejjcifgamDoorDrawSpot2
namespace Go.Proofs.YtfdkpcejjcifgamDoor
open Go.RowKit Go.Sort
set_option linter.unusedVariables false
namespace DS
open DK DW DF SK
theorem drawSpotDist_any (w : World) (a : Option Addr) (len cap : Nat) (h : Src w a len cap) :
    Calls Tryd.prog 8 #[.slice a len cap] w fun e w' => ∃ a l b m : Int, e = .returned (.tuple #[SK.spV a l, SK.spV b m]) ∧ -32400010 ≤ a ∧ a ≤ 32400010 ∧ -10 ≤ l ∧ l ≤ 129600010 ∧ -32400010 ≤ b ∧ b ≤ 32400010 ∧ -10 ≤ m ∧ m ≤ 129600010 ∧ Below w.heap.size w w' := by
  have R := (SK.Box.new w 0 0 24).alloc (.cells #[.int .i64 0, .int .i64 0] 24)
  have Z := SK.Box.new2 w (.cells #[.int .i64 0, .int .i64 0] 24) 0 0 24
  have B0 := SK.below_new2 w (.cells #[.int .i64 0, .int .i64 0] 24) (.cells #[.int .i64 0, .int .i64 0] 24)
  have hk : w.heap.size + 1 + 1 ≤ ((w.alloc (.cells #[.int .i64 0, .int .i64 0] 24)).alloc (.cells #[.int .i64 0, .int .i64 0] 24)).heap.size := by simp
  go_enter Tryd.func8, Tryd.ntmps8
  go_wp2_with fail
  refine (l6Open_any _ _ _ _ (h.kept B0)).mono ?_
  rintro e w1 ⟨rfl, R1, B1⟩
  replace R := R.kept B1
  replace Z := Z.kept B1
  have B := SK.below1 B0 B1
  generalize ((w.alloc (.cells #[.int .i64 0, .int .i64 0] 24)).alloc (.cells #[.int .i64 0, .int .i64 0] 24)).heap.size = k at *
  clear B0 B1 h
  go_wp2_with fail
  refine (l71Spots_any _ k _ (by omega) R1).mono ?_
  rintro e w2 ⟨a, l, b, m, p2, rfl, a0, a1, l0, l1, b0, b1, m0, m1, q2, R2, T2⟩
  obtain ⟨r0, r1, r2, r3⟩ := boxTch R T2 R.lt (by omega)
  obtain ⟨z0, z1, z2, z3⟩ := boxTch Z T2 Z.lt (by omega)
  replace B := B.trans (T2.toBelow B.size (by omega))
  clear T2 R1 R2
  go_wp2
  refine bodyPost_ret (v := .tuple #[.agg #[.int .i64 a, .int .i64 l], .agg #[.int .i64 b, .int .i64 m]]) (by simp [results, Tryd.results8, go_sem, *]) rfl ⟨_, _, _, _, rfl, a0, a1, l0, l1, b0, b1, m0, m1, ?_⟩
  exact SK.below_set2 (SK.below_set2 B (by omega) _ _) (by omega) _ _
theorem drawSpotFar_any (w : World) (a : Option Addr) (len cap : Nat) (h : Src w a len cap) :
    Calls Tryd.prog 14 #[.slice a len cap] w fun e w' => ∃ a l : Int, e = .returned (SK.spV a l) ∧ -32400010 ≤ a ∧ a ≤ 32400010 ∧ -10 ≤ l ∧ l ≤ 129600010 ∧ Below w.heap.size w w' := by
  have R := SK.Box.new w 0 0 24
  have B0 := SK.below_new w (.cells #[.int .i64 0, .int .i64 0] 24)
  have hk : w.heap.size + 1 ≤ (w.alloc (.cells #[.int .i64 0, .int .i64 0] 24)).heap.size := by simp
  go_enter Tryd.func14, Tryd.ntmps14
  go_wp2_with fail
  refine (l6Open_any _ _ _ _ (h.kept B0)).mono ?_
  rintro e w1 ⟨rfl, R1, B1⟩
  replace R := R.kept B1
  have B := SK.below1 B0 B1
  generalize (w.alloc (.cells #[.int .i64 0, .int .i64 0] 24)).heap.size = k at *
  clear B0 B1 h
  go_wp2_with fail
  refine (l71Spot_any _ k _ (by omega) R1).mono ?_
  rintro e w2 ⟨a, l, p2, rfl, a0, a1, l0, l1, q2, R2, T2⟩
  obtain ⟨r0, r1, r2, r3⟩ := boxTch R T2 R.lt (by omega)
  replace B := B.trans (T2.toBelow B.size (by omega))
  clear T2 R1 R2
  go_wp2
  refine bodyPost_ret (v := .agg #[.int .i64 a, .int .i64 l]) (by simp [results, Tryd.results14, go_sem, *]) rfl ⟨_, _, rfl, a0, a1, l0, l1, ?_⟩
  exact SK.below_set2 B (by omega) _ _
end DS
end Go.Proofs.YtfdkpcejjcifgamDoor
