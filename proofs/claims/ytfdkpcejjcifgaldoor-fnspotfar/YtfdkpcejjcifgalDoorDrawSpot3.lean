/-
  The draws of the laws of places.
-/
import Derived.Test.YtfdkpcejjcifgalDoorDrawFan
import Derived.Test.YtfdkpcejjcifgalDoorDrawSpot2
namespace Go.Proofs.YtfdkpcejjcifgalDoor
open Go.RowKit Go.Sort
set_option linter.unusedVariables false
namespace DS
open DK DW DF SK
theorem drawSpotFar_any (w : World) (a : Option Addr) (len cap : Nat) (h : Src w a len cap) :
    Calls Tryd.prog 15 #[.slice a len cap] w fun e w' => ∃ a l : Int, e = .returned (SK.spV a l) ∧ -32400010 ≤ a ∧ a ≤ 32400010 ∧ -10 ≤ l ∧ l ≤ 129600010 ∧ Below w.heap.size w w' := by
  have R := SK.Box.new w 0 0 32
  have B0 := SK.below_new w (.cells #[.int .i64 0, .int .i64 0] 32)
  have hk : w.heap.size + 1 ≤ (w.alloc (.cells #[.int .i64 0, .int .i64 0] 32)).heap.size := by simp
  go_enter Tryd.func15, Tryd.ntmps15
  go_wp2_with fail
  refine (l6Open_any _ _ _ _ (h.kept B0)).mono ?_
  rintro e w1 ⟨rfl, R1, B1⟩
  replace R := R.kept B1
  have B := SK.below1 B0 B1
  generalize (w.alloc (.cells #[.int .i64 0, .int .i64 0] 32)).heap.size = k at *
  clear B0 B1 h
  go_wp2_with fail
  refine (l71Spot_any _ k _ (by omega) R1).mono ?_
  rintro e w2 ⟨a, l, p2, rfl, a0, a1, l0, l1, q2, R2, T2⟩
  obtain ⟨r0, r1, r2, r3⟩ := boxTch R T2 R.lt (by omega)
  replace B := B.trans (T2.toBelow B.size (by omega))
  clear T2 R1 R2
  go_wp2
  refine bodyPost_ret (v := .agg #[.int .i64 a, .int .i64 l]) (by simp [results, Tryd.results15, go_sem, *]) rfl ⟨_, _, rfl, a0, a1, l0, l1, ?_⟩
  exact SK.below_set2 B (by omega) _ _
end DS
end Go.Proofs.YtfdkpcejjcifgalDoor
