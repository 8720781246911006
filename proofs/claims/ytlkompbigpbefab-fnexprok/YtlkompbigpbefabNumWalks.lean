/-
  What the functions of chapter 1 (the program's, and the model's of the specification) return, a contract each.
-/
import Derived.Test.YtlkompbigpbefabRows
import Derived.Test.YtlkompbigpbefabNumMath
import Derived.WalkKit
import Derived.Below
import Derived.Laws.EntriesVeiled
namespace Go.Proofs.Ytlkompbigpbefab
open Go.RowKit
set_option linter.unusedVariables false

namespace NW

theorem hide {p : Prop} (h : p) : Hid p := h
theorem unhide {p : Prop} (h : Hid p) : p := h.out
theorem ret_int {k : IntKind} {a b : Int} (h : a = b) : Ending.returned (.int k a) = .returned (.int k b) := by rw [h]

theorem ret_two {k : IntKind} {a b : Int} {c d : Bool} (h : a = b) (g : c = d) : Ending.returned (.tuple #[.int k a, .bool c]) = .returned (.tuple #[.int k b, .bool d]) := by rw [h, g]

theorem ret_bool {a b : Bool} (h : a = b) : Ending.returned (.bool a) = .returned (.bool b) := by rw [h]





theorem l6In_any (n lo hi : Int) (w : World) :
    Calls Try.prog 39 #[.int .i64 n, .int .i64 lo, .int .i64 hi] w fun e w' => e = .returned (.bool (NM.inB n lo hi)) ∧ w' = w := by
  by_cases h1 : lo ≤ n
  · by_cases h2 : n ≤ hi
    · have H : Hid (true = NM.inB n lo hi) := (decide_eq_true ⟨h1, h2⟩).symm
      go_enter Try.func39, Try.ntmps39
      go_wp2
      go_ret
      exact ⟨ret_bool H.out, rfl⟩
    · have H : Hid (false = NM.inB n lo hi) := (decide_eq_false (fun h => h2 h.2)).symm
      go_enter Try.func39, Try.ntmps39
      go_wp2
      go_ret
      exact ⟨ret_bool H.out, rfl⟩
  · have H : Hid (false = NM.inB n lo hi) := (decide_eq_false (fun h => h1 h.1)).symm
    go_enter Try.func39, Try.ntmps39
    go_wp2
    go_ret
    exact ⟨ret_bool H.out, rfl⟩

theorem l1Down_any (a b : Int) (w : World) (h1 : -1152921504606846976 ≤ a) (h2 : a ≤ 1152921504606846976) (h3 : 1 ≤ b) (h4 : b ≤ 1152921504606846976) :
    Calls Try.prog 82 #[.int .i64 a, .int .i64 b] w fun e w' => e = .returned (.int .i64 (NM.down a b)) ∧ w' = w := by
  have hb := NM.div_bd a b h3 h1 h2
  have hz : (b == 0) = false := by simp; omega
  by_cases h : 0 ≤ a
  · go_enter Try.func82, Try.ntmps82
    go_wp2
    go_ret
    exact ⟨rfl, rfl⟩
  · have H : Hid (-((-a + b - 1) / b) = a / b) := NM.up_case a b h3
    have hc : -1152921504606846976 ≤ (-a + b - 1) / b ∧ (-a + b - 1) / b ≤ 1152921504606846976 := by have := H.out; omega
    go_enter Try.func82, Try.ntmps82
    go_wp2
    go_ret
    exact ⟨ret_int H.out, rfl⟩

theorem l1Up_any (a b : Int) (w : World) (h1 : -1152921504606846976 ≤ a) (h2 : a ≤ 1152921504606846976) (h3 : 1 ≤ b) (h4 : b ≤ 1152921504606846976) :
    Calls Try.prog 83 #[.int .i64 a, .int .i64 b] w fun e w' => e = .returned (.int .i64 (NM.up a b)) ∧ w' = w := by
  have hb := NM.div_bd (-a) b h3 (by omega) (by omega)
  go_enter Try.func83, Try.ntmps83
  go_wp2_with fail
  refine (l1Down_any _ _ _ (by omega) (by omega) (by omega) (by omega)).mono ?_
  rintro e w' ⟨rfl, rfl⟩
  have hc : -1152921504606846976 ≤ NM.down (-a) b ∧ NM.down (-a) b ≤ 1152921504606846976 := hb
  go_wp2
  go_ret
  exact ⟨rfl, rfl⟩














end NW
end Go.Proofs.Ytlkompbigpbefab
