/-
  What the program's functions of chapter 13 return: CosBack, and the angles of places.
-/
import Derived.Test.YtfdkpcejjcifgajBackImpl
namespace Go.Proofs.Ytfdkpcejjcifgaj
open Go.RowKit Go.Sort
set_option linter.unusedVariables false
namespace SK
theorem aboutFrom_any (l h a : Int) (w : World) (l0 : -1000000000 ≤ l) (l1 : l ≤ 1000000000) (h0 : -1000000000 ≤ h) (h1 : h ≤ 1000000000) (a0 : -1000000000 ≤ a) (a1 : a ≤ 1000000000) :
    Calls Try.prog 42 #[spV l h, .int .i64 a] w fun e w' => e = .returned (spV (a - h) (a - l)) ∧ Below w.heap.size w w' := by
  go_enter Try.func42, Try.ntmps42
  go_wp2
  refine bodyPost_ret (v := .agg #[.int .i64 (a - h), .int .i64 (a - l)]) (by simp [results, Try.results42, go_sem]) rfl ⟨rfl, ?_⟩
  exact below_new2 _ _ _
theorem cosBack_any (x : Int) (w : World) :
    Calls Try.prog 21 #[.int .i64 x] w fun e w' => e = .returned (.tuple #[spV (SM.sel (okU x) (32400000 - SI.sbH x)) (SM.sel (okU x) (32400000 - SI.sbL x)), .bool (okU x)]) ∧ Below w.heap.size w w' := by
  have S := fun w => sineBack_any x w
  cases h : okU x
  · rw [h] at S
    simp only [SM.sel] at *
    go_enter Try.func21, Try.ntmps21
    go_wp2_with fail
    refine (S _).mono ?_
    rintro e w1 ⟨rfl, B1⟩
    obtain ⟨x0, x1, x2, x3⟩ := ((Box.new w 0 0 30).kept B1).alloc (.cells #[.int .i64 0, .int .i64 0] 30)
    have B := below1 (below1 (below_new w (.cells #[.int .i64 0, .int .i64 0] 30)) B1) (below_new w1 (.cells #[.int .i64 0, .int .i64 0] 30))
    go_wp2
    refine bodyPost_ret (v := .tuple #[.agg #[.int .i64 0, .int .i64 0], .bool false]) (by simp [results, Try.results21, go_sem, *]) rfl ⟨rfl, ?_⟩
    exact below_set2 B (Nat.le_refl _) _ _
  · rw [h] at S
    obtain ⟨u0, u1⟩ := okU_of h
    obtain ⟨_, _, l0, l1, h0, h1⟩ := SI.sb_of u0 u1
    simp only [SM.sel] at *
    generalize SI.sbL x = p at *
    generalize SI.sbH x = q at *
    have F := fun w => aboutFrom_any p q 32400000 w (by omega) (by omega) (by omega) (by omega) (by omega) (by omega)
    go_enter Try.func21, Try.ntmps21
    go_wp2_with fail
    refine (S _).mono ?_
    rintro e w1 ⟨rfl, B1⟩
    have X := ((Box.new w 0 0 30).kept B1).alloc (.cells #[.int .i64 p, .int .i64 q] 30)
    have B := below1 (below1 (below_new w (.cells #[.int .i64 0, .int .i64 0] 30)) B1) (below_new w1 (.cells #[.int .i64 p, .int .i64 q] 30))
    go_wp2_with fail
    refine (F _).mono ?_
    rintro e w2 ⟨rfl, B2⟩
    obtain ⟨x0, x1, x2, x3⟩ := X.kept B2
    replace B := below1 B B2
    clear X B1 B2 S F
    go_wp2
    refine bodyPost_ret (v := .tuple #[.agg #[.int .i64 (32400000 - q), .int .i64 (32400000 - p)], .bool true]) (by simp [results, Try.results21, go_sem, *]) rfl ⟨rfl, ?_⟩
    exact below_set2 B (Nat.le_refl _) _ _
end SK
end Go.Proofs.Ytfdkpcejjcifgaj
