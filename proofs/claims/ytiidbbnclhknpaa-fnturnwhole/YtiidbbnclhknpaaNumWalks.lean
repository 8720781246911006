/-
  What the functions of chapter 1 (the program's, and the model's of the specification) return, a contract each.
-/
import Derived.Test.YtiidbbnclhknpaaRows
import Derived.Test.YtiidbbnclhknpaaNumMath
import Derived.WalkKit
import Derived.Below
import Derived.Laws.EntriesVeiled
namespace Go.Proofs.Ytiidbbnclhknpaa
open Go.RowKit
set_option linter.unusedVariables false

namespace NW

theorem hide {p : Prop} (h : p) : Hid p := h
theorem unhide {p : Prop} (h : Hid p) : p := h.out
theorem ret_int {k : IntKind} {a b : Int} (h : a = b) : Ending.returned (.int k a) = .returned (.int k b) := by rw [h]

theorem ret_two {k : IntKind} {a b : Int} {c d : Bool} (h : a = b) (g : c = d) : Ending.returned (.tuple #[.int k a, .bool c]) = .returned (.tuple #[.int k b, .bool d]) := by rw [h, g]

theorem ret_bool {a b : Bool} (h : a = b) : Ending.returned (.bool a) = .returned (.bool b) := by rw [h]

theorem roundDown_any (a b : Int) (w : World) (h1 : -1152921504606846976 ≤ a) (h2 : a ≤ 1152921504606846976) (h3 : 1 ≤ b) (h4 : b ≤ 1152921504606846976) :
    Calls Try.prog 42 #[.int .i64 a, .int .i64 b] w fun e w' => e = .returned (.int .i64 (NM.down a b)) ∧ w' = w := by
  have hb := NM.tdiv_bd a b h3 h1 h2
  have hz : (b == 0) = false := by simp; omega
  by_cases h : a.tmod b < 0
  · have H : Hid (a.tdiv b - 1 = a / b) := NM.tdiv_neg_case a b h3 h
    go_enter Try.func42, Try.ntmps42
    go_wp2
    go_ret
    exact ⟨ret_int H.out, rfl⟩
  · have H : Hid (a.tdiv b = a / b) := NM.tdiv_nonneg_case a b h3 h
    go_enter Try.func42, Try.ntmps42
    go_wp2
    go_ret
    exact ⟨ret_int H.out, rfl⟩

theorem roundUp_any (a b : Int) (w : World) (h1 : -1152921504606846976 ≤ a) (h2 : a ≤ 1152921504606846976) (h3 : 1 ≤ b) (h4 : b ≤ 1152921504606846976) :
    Calls Try.prog 54 #[.int .i64 a, .int .i64 b] w fun e w' => e = .returned (.int .i64 (NM.up a b)) ∧ w' = w := by
  have hb := NM.div_bd (-a) b h3 (by omega) (by omega)
  go_enter Try.func54, Try.ntmps54
  go_wp2_with fail
  refine (roundDown_any _ _ _ (by omega) (by omega) (by omega) (by omega)).mono ?_
  rintro e w' ⟨rfl, rfl⟩
  have hc : -1152921504606846976 ≤ NM.down (-a) b ∧ NM.down (-a) b ≤ 1152921504606846976 := hb
  go_wp2
  go_ret
  exact ⟨rfl, rfl⟩



theorem l6In_any (n lo hi : Int) (w : World) :
    Calls Try.prog 31 #[.int .i64 n, .int .i64 lo, .int .i64 hi] w fun e w' => e = .returned (.bool (NM.inB n lo hi)) ∧ w' = w := by
  by_cases h1 : lo ≤ n
  · by_cases h2 : n ≤ hi
    · have H : Hid (true = NM.inB n lo hi) := (decide_eq_true ⟨h1, h2⟩).symm
      go_enter Try.func31, Try.ntmps31
      go_wp2
      go_ret
      exact ⟨ret_bool H.out, rfl⟩
    · have H : Hid (false = NM.inB n lo hi) := (decide_eq_false (fun h => h2 h.2)).symm
      go_enter Try.func31, Try.ntmps31
      go_wp2
      go_ret
      exact ⟨ret_bool H.out, rfl⟩
  · have H : Hid (false = NM.inB n lo hi) := (decide_eq_false (fun h => h1 h.1)).symm
    go_enter Try.func31, Try.ntmps31
    go_wp2
    go_ret
    exact ⟨ret_bool H.out, rfl⟩

theorem l1Down_any (a b : Int) (w : World) (h1 : -1152921504606846976 ≤ a) (h2 : a ≤ 1152921504606846976) (h3 : 1 ≤ b) (h4 : b ≤ 1152921504606846976) :
    Calls Try.prog 35 #[.int .i64 a, .int .i64 b] w fun e w' => e = .returned (.int .i64 (NM.down a b)) ∧ w' = w := by
  have hb := NM.div_bd a b h3 h1 h2
  have hz : (b == 0) = false := by simp; omega
  by_cases h : 0 ≤ a
  · go_enter Try.func35, Try.ntmps35
    go_wp2
    go_ret
    exact ⟨rfl, rfl⟩
  · have H : Hid (-((-a + b - 1) / b) = a / b) := NM.up_case a b h3
    have hc : -1152921504606846976 ≤ (-a + b - 1) / b ∧ (-a + b - 1) / b ≤ 1152921504606846976 := by have := H.out; omega
    go_enter Try.func35, Try.ntmps35
    go_wp2
    go_ret
    exact ⟨ret_int H.out, rfl⟩

theorem l1Up_any (a b : Int) (w : World) (h1 : -1152921504606846976 ≤ a) (h2 : a ≤ 1152921504606846976) (h3 : 1 ≤ b) (h4 : b ≤ 1152921504606846976) :
    Calls Try.prog 41 #[.int .i64 a, .int .i64 b] w fun e w' => e = .returned (.int .i64 (NM.up a b)) ∧ w' = w := by
  have hb := NM.div_bd (-a) b h3 (by omega) (by omega)
  go_enter Try.func41, Try.ntmps41
  go_wp2_with fail
  refine (l1Down_any _ _ _ (by omega) (by omega) (by omega) (by omega)).mono ?_
  rintro e w' ⟨rfl, rfl⟩
  have hc : -1152921504606846976 ≤ NM.down (-a) b ∧ NM.down (-a) b ≤ 1152921504606846976 := hb
  go_wp2
  go_ret
  exact ⟨rfl, rfl⟩














end NW
end Go.Proofs.Ytiidbbnclhknpaa
