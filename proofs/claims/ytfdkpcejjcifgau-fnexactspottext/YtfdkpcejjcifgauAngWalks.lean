/-
  The parts of an angle, by the specification: what its AngParts and AngOf answer.
-/
import Derived.Test.YtfdkpcejjcifgauRows
import Derived.Test.YtfdkpcejjcifgauAngText
import Derived.Test.YtfdkpcejjcifgauTextWalks
import Derived.Test.YtfdkpcejjcifgauNumWalks
import Derived.WalkKit
import Derived.Below
import Derived.Lib.QuietBelow
namespace Go.Proofs.Ytfdkpcejjcifgau
open Go.RowKit Go.Sort
set_option linter.unusedVariables false
namespace AW
open AM AT
/-- Hidden from the walk's simp. -/
structure Hidden (p : Prop) : Prop where
  out : p
abbrev angV (l : Bool) (d m s h : Int) : Value := .agg #[.bool l, .int .i64 d, .int .i64 m, .int .i64 s, .int .i64 h]
theorem sParts_no (a : Int) (w : World) (h : inT a = false) :
    Calls Try.prog 34 #[.int .i64 a] w fun e w' => e = .returned (.tuple #[angV false 0 0 0 0, .bool false]) ∧ Below w.heap.size w w' := by
  have h' : NM.inB a (-129600000) 129600000 = false := h
  go_enter Try.func34, Try.ntmps34
  go_wp2_with fail
  refine (NW.l6In_any _ _ _ _).mono ?_
  rintro e w' ⟨rfl, rfl⟩
  go_wp2
  refine bodyPost_ret (v := .tuple #[angV false 0 0 0 0, .bool false]) (by simp [results, Try.results34, go_sem]) rfl ⟨rfl, ?_⟩
  exact below_new _ _
theorem sParts_yes (a : Int) (w : World) (h : inT a = true) :
    Calls Try.prog 34 #[.int .i64 a] w fun e w' => e = .returned (.tuple #[angV (decide (a < 0)) (deg a) (mi a) (se a) (hu a), .bool true]) ∧ Below w.heap.size w w' := by
  have h' : NM.inB a (-129600000) 129600000 = true := h
  obtain ⟨a0, a1⟩ := inT_of h
  by_cases n : a < 0
  · obtain ⟨b, rfl⟩ : ∃ b, a = -b := ⟨-a, by omega⟩
    have eb : ab (-b) = b := by rw [ab_lt n]; omega
    have b0 : 0 < b := by omega
    have b1 : b ≤ 129600000 := by omega
    unfold deg mi se hu
    rw [eb]
    go_enter Try.func34, Try.ntmps34
    go_wp2_with fail
    refine (NW.l6In_any _ _ _ _).mono ?_
    rintro e w' ⟨rfl, rfl⟩
    go_wp2
    refine bodyPost_ret (v := .tuple #[angV true (b / 360000) (b % 360000 / 6000) (b % 6000 / 100) (b % 100), .bool true]) (by simp [results, Try.results34, go_sem]) rfl ⟨by rw [decide_eq_true n], ?_⟩
    exact below1 (below_new _ _) (below_new _ _)
  · unfold deg mi se hu
    rw [ab_ge n]
    have a2 : 0 ≤ a := by omega
    go_enter Try.func34, Try.ntmps34
    go_wp2_with fail
    refine (NW.l6In_any _ _ _ _).mono ?_
    rintro e w' ⟨rfl, rfl⟩
    go_wp2
    refine bodyPost_ret (v := .tuple #[angV false (a / 360000) (a % 360000 / 6000) (a % 6000 / 100) (a % 100), .bool true]) (by simp [results, Try.results34, go_sem, a2]) rfl ⟨by rw [decide_eq_false (show ¬ a < 0 by omega)], ?_⟩
    exact below1 (below_new _ _) (below_new _ _)
/-- An angle by its parts lies in block 'b'. -/
structure Five (w : World) (b : Nat) (l : Bool) (d m s h : Int) : Prop where
  c0 : w.cell? ⟨b, 0, none⟩ = some (.bool l)
  c1 : w.cell? ⟨b, 1, none⟩ = some (.int .i64 d)
  c2 : w.cell? ⟨b, 2, none⟩ = some (.int .i64 m)
  c3 : w.cell? ⟨b, 3, none⟩ = some (.int .i64 s)
  c4 : w.cell? ⟨b, 4, none⟩ = some (.int .i64 h)
theorem Five.kept {w w' : World} {b : Nat} {l : Bool} {d m s h : Int} (f : Five w b l d m s h) (k : Below w.heap.size w w') : Five w' b l d m s h :=
  ⟨(k.cell (cell_lt f.c0)).trans f.c0, (k.cell (cell_lt f.c1)).trans f.c1, (k.cell (cell_lt f.c2)).trans f.c2, (k.cell (cell_lt f.c3)).trans f.c3, (k.cell (cell_lt f.c4)).trans f.c4⟩
theorem Five.new (w : World) (l : Bool) (d m s h : Int) (t : TypeId) : Five (w.alloc (.cells #[.bool l, .int .i64 d, .int .i64 m, .int .i64 s, .int .i64 h] t)) w.heap.size l d m s h :=
  ⟨by simp [go_sem], by simp [go_sem], by simp [go_sem], by simp [go_sem], by simp [go_sem]⟩
end AW
end Go.Proofs.Ytfdkpcejjcifgau
