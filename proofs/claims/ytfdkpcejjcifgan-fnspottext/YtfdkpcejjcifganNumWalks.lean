/-
  What the functions of chapter 1 (the program's, and the model's of the specification) return, a contract each.
-/
import Derived.Test.YtfdkpcejjcifganRows
import Derived.Test.YtfdkpcejjcifganNumMath
import Derived.WalkKit
import Derived.Below
import Derived.Laws.EntriesVeiled
namespace Go.Proofs.Ytfdkpcejjcifgan
open Go.RowKit
set_option linter.unusedVariables false

namespace NW

theorem hide {p : Prop} (h : p) : Hid p := h
theorem unhide {p : Prop} (h : Hid p) : p := h.out
theorem ret_int {k : IntKind} {a b : Int} (h : a = b) : Ending.returned (.int k a) = .returned (.int k b) := by rw [h]

theorem ret_two {k : IntKind} {a b : Int} {c d : Bool} (h : a = b) (g : c = d) : Ending.returned (.tuple #[.int k a, .bool c]) = .returned (.tuple #[.int k b, .bool d]) := by rw [h, g]

theorem ret_bool {a b : Bool} (h : a = b) : Ending.returned (.bool a) = .returned (.bool b) := by rw [h]





theorem l6In_any (n lo hi : Int) (w : World) :
    Calls Try.prog 20 #[.int .i64 n, .int .i64 lo, .int .i64 hi] w fun e w' => e = .returned (.bool (NM.inB n lo hi)) ∧ w' = w := by
  by_cases h1 : lo ≤ n
  · by_cases h2 : n ≤ hi
    · have H : Hid (true = NM.inB n lo hi) := (decide_eq_true ⟨h1, h2⟩).symm
      go_enter Try.func20, Try.ntmps20
      go_wp2
      go_ret
      exact ⟨ret_bool H.out, rfl⟩
    · have H : Hid (false = NM.inB n lo hi) := (decide_eq_false (fun h => h2 h.2)).symm
      go_enter Try.func20, Try.ntmps20
      go_wp2
      go_ret
      exact ⟨ret_bool H.out, rfl⟩
  · have H : Hid (false = NM.inB n lo hi) := (decide_eq_false (fun h => h1 h.1)).symm
    go_enter Try.func20, Try.ntmps20
    go_wp2
    go_ret
    exact ⟨ret_bool H.out, rfl⟩
















end NW
end Go.Proofs.Ytfdkpcejjcifgan
