/-
  What the program's functions of chapter 13 return: halving by a question, angles of sines, and of places.
-/
import Derived.Test.YtgpnnaafialkjakSineImpl
import Derived.Test.YtgpnnaafialkjakBackWalks3
import Derived.WalkMore
namespace Go.Proofs.Ytgpnnaafialkjak
open Go.RowKit Go.Sort
set_option linter.unusedVariables false
namespace SK
theorem isOne_any (x : Int) (w : World) :
    Calls Try.prog 22 #[.int .i64 x] w fun e w' => e = .returned (.bool (okU x)) ∧ w' = w := by
  have N : ∀ w, Calls Try.prog 32 #[.int .i64 x, .int .i64 1000000000] w fun e w' => e = .returned (.bool (okU x)) ∧ w' = w := by
    intro w
    by_cases h1 : -1000000000 ≤ x
    · by_cases h2 : x ≤ 1000000000
      · have H : Hide (true = okU x) := ⟨(decide_eq_true ⟨h1, h2⟩).symm⟩
        go_enter Try.func32, Try.ntmps32
        go_wp2
        go_ret
        exact ⟨NW.ret_bool H.out, rfl⟩
      · have H : Hide (false = okU x) := ⟨(decide_eq_false (fun h => h2 h.2)).symm⟩
        go_enter Try.func32, Try.ntmps32
        go_wp2
        go_ret
        exact ⟨NW.ret_bool H.out, rfl⟩
    · have H : Hide (false = okU x) := ⟨(decide_eq_false (fun h => h1 h.1)).symm⟩
      go_enter Try.func32, Try.ntmps32
      go_wp2
      go_ret
      exact ⟨NW.ret_bool H.out, rfl⟩
  go_enter Try.func22, Try.ntmps22
  go_wp2_with fail
  refine (N _).mono ?_
  rintro e w' ⟨rfl, rfl⟩
  go_wp2
  go_ret
  exact ⟨rfl, rfl⟩
end SK
end Go.Proofs.Ytgpnnaafialkjak
