/-
  What the functions of chapter 1 (the program's, and the model's of the specification) return, a contract each.
-/
import Derived.Test.YtfdkpcejjcifgauGreatDoorRows
import Derived.Test.YtfdkpcejjcifgauGreatDoorNumMath
import Derived.WalkKit
import Derived.Below
import Derived.Laws.EntriesVeiled
namespace Go.Proofs.YtfdkpcejjcifgauGreatDoor
open Go.RowKit
set_option linter.unusedVariables false

namespace NW

theorem hide {p : Prop} (h : p) : Hid p := h
theorem unhide {p : Prop} (h : Hid p) : p := h.out
theorem ret_int {k : IntKind} {a b : Int} (h : a = b) : Ending.returned (.int k a) = .returned (.int k b) := by rw [h]

theorem ret_two {k : IntKind} {a b : Int} {c d : Bool} (h : a = b) (g : c = d) : Ending.returned (.tuple #[.int k a, .bool c]) = .returned (.tuple #[.int k b, .bool d]) := by rw [h, g]

theorem ret_bool {a b : Bool} (h : a = b) : Ending.returned (.bool a) = .returned (.bool b) := by rw [h]

theorem roundDown_any (a b : Int) (w : World) (h1 : -1152921504606846976 ≤ a) (h2 : a ≤ 1152921504606846976) (h3 : 1 ≤ b) (h4 : b ≤ 1152921504606846976) :
    Calls Tryz.prog 66 #[.int .i64 a, .int .i64 b] w fun e w' => e = .returned (.int .i64 (NM.down a b)) ∧ w' = w := by
  have hb := NM.tdiv_bd a b h3 h1 h2
  have hz : (b == 0) = false := by simp; omega
  by_cases h : a.tmod b < 0
  · have H : Hid (a.tdiv b - 1 = a / b) := NM.tdiv_neg_case a b h3 h
    go_enter Tryz.func66, Tryz.ntmps66
    go_wp2
    go_ret
    exact ⟨ret_int H.out, rfl⟩
  · have H : Hid (a.tdiv b = a / b) := NM.tdiv_nonneg_case a b h3 h
    go_enter Tryz.func66, Tryz.ntmps66
    go_wp2
    go_ret
    exact ⟨ret_int H.out, rfl⟩

theorem roundUp_any (a b : Int) (w : World) (h1 : -1152921504606846976 ≤ a) (h2 : a ≤ 1152921504606846976) (h3 : 1 ≤ b) (h4 : b ≤ 1152921504606846976) :
    Calls Tryz.prog 69 #[.int .i64 a, .int .i64 b] w fun e w' => e = .returned (.int .i64 (NM.up a b)) ∧ w' = w := by
  have hb := NM.div_bd (-a) b h3 (by omega) (by omega)
  go_enter Tryz.func69, Tryz.ntmps69
  go_wp2_with fail
  refine (roundDown_any _ _ _ (by omega) (by omega) (by omega) (by omega)).mono ?_
  rintro e w' ⟨rfl, rfl⟩
  have hc : -1152921504606846976 ≤ NM.down (-a) b ∧ NM.down (-a) b ≤ 1152921504606846976 := hb
  go_wp2
  go_ret
  exact ⟨rfl, rfl⟩

theorem roundZero_any (a b : Int) (w : World) (h1 : -1152921504606846976 ≤ a) (h2 : a ≤ 1152921504606846976) (h3 : 1 ≤ b) (h4 : b ≤ 1152921504606846976) :
    Calls Tryz.prog 70 #[.int .i64 a, .int .i64 b] w fun e w' => e = .returned (.int .i64 (a.tdiv b)) ∧ w' = w := by
  have hb := NM.tdiv_bd a b h3 h1 h2
  have hz : (b == 0) = false := by simp; omega
  go_enter Tryz.func70, Tryz.ntmps70
  go_wp2
  go_ret
  exact ⟨rfl, rfl⟩

theorem roundEven_any (a b : Int) (w : World) (h1 : -1152921504606846976 ≤ a) (h2 : a ≤ 1152921504606846976) (h3 : 1 ≤ b) (h4 : b ≤ 1152921504606846976) :
    Calls Tryz.prog 71 #[.int .i64 a, .int .i64 b] w fun e w' => e = .returned (.int .i64 (NM.even a b)) ∧ w' = w := by
  have hb := NM.div_bd a b h3 h1 h2
  have hm := NM.down_mul a b h3
  go_enter Tryz.func71, Tryz.ntmps71
  go_wp2_with fail
  refine (roundDown_any _ _ _ (by omega) (by omega) (by omega) (by omega)).mono ?_
  rintro e w' ⟨rfl, rfl⟩
  have hc : -1152921504606846976 ≤ NM.down a b ∧ NM.down a b ≤ 1152921504606846976 := hb
  go_wp2
  all_goals go_ret
  · exact ⟨ret_int (NM.even_2 ‹_› ‹_›), rfl⟩
  · exact ⟨ret_int (NM.even_3 ‹_› ‹_›), rfl⟩
  · exact ⟨ret_int (NM.even_4 ‹_› ‹_›), rfl⟩
  · exact ⟨ret_int (NM.even_1 ‹_›), rfl⟩

theorem l6In_any (n lo hi : Int) (w : World) :
    Calls Tryz.prog 15 #[.int .i64 n, .int .i64 lo, .int .i64 hi] w fun e w' => e = .returned (.bool (NM.inB n lo hi)) ∧ w' = w := by
  by_cases h1 : lo ≤ n
  · by_cases h2 : n ≤ hi
    · have H : Hid (true = NM.inB n lo hi) := (decide_eq_true ⟨h1, h2⟩).symm
      go_enter Tryz.func15, Tryz.ntmps15
      go_wp2
      go_ret
      exact ⟨ret_bool H.out, rfl⟩
    · have H : Hid (false = NM.inB n lo hi) := (decide_eq_false (fun h => h2 h.2)).symm
      go_enter Tryz.func15, Tryz.ntmps15
      go_wp2
      go_ret
      exact ⟨ret_bool H.out, rfl⟩
  · have H : Hid (false = NM.inB n lo hi) := (decide_eq_false (fun h => h1 h.1)).symm
    go_enter Tryz.func15, Tryz.ntmps15
    go_wp2
    go_ret
    exact ⟨ret_bool H.out, rfl⟩

theorem l1Down_any (a b : Int) (w : World) (h1 : -1152921504606846976 ≤ a) (h2 : a ≤ 1152921504606846976) (h3 : 1 ≤ b) (h4 : b ≤ 1152921504606846976) :
    Calls Tryz.prog 34 #[.int .i64 a, .int .i64 b] w fun e w' => e = .returned (.int .i64 (NM.down a b)) ∧ w' = w := by
  have hb := NM.div_bd a b h3 h1 h2
  have hz : (b == 0) = false := by simp; omega
  by_cases h : 0 ≤ a
  · go_enter Tryz.func34, Tryz.ntmps34
    go_wp2
    go_ret
    exact ⟨rfl, rfl⟩
  · have H : Hid (-((-a + b - 1) / b) = a / b) := NM.up_case a b h3
    have hc : -1152921504606846976 ≤ (-a + b - 1) / b ∧ (-a + b - 1) / b ≤ 1152921504606846976 := by have := H.out; omega
    go_enter Tryz.func34, Tryz.ntmps34
    go_wp2
    go_ret
    exact ⟨ret_int H.out, rfl⟩

theorem l1Up_any (a b : Int) (w : World) (h1 : -1152921504606846976 ≤ a) (h2 : a ≤ 1152921504606846976) (h3 : 1 ≤ b) (h4 : b ≤ 1152921504606846976) :
    Calls Tryz.prog 35 #[.int .i64 a, .int .i64 b] w fun e w' => e = .returned (.int .i64 (NM.up a b)) ∧ w' = w := by
  have hb := NM.div_bd (-a) b h3 (by omega) (by omega)
  go_enter Tryz.func35, Tryz.ntmps35
  go_wp2_with fail
  refine (l1Down_any _ _ _ (by omega) (by omega) (by omega) (by omega)).mono ?_
  rintro e w' ⟨rfl, rfl⟩
  have hc : -1152921504606846976 ≤ NM.down (-a) b ∧ NM.down (-a) b ≤ 1152921504606846976 := hb
  go_wp2
  go_ret
  exact ⟨rfl, rfl⟩

theorem l1Even_any (a b : Int) (w : World) (h1 : -1152921504606846976 ≤ a) (h2 : a ≤ 1152921504606846976) (h3 : 1 ≤ b) (h4 : b ≤ 1152921504606846976) :
    Calls Tryz.prog 36 #[.int .i64 a, .int .i64 b] w fun e w' => e = .returned (.int .i64 (NM.even a b)) ∧ w' = w := by
  have hb := NM.div_bd a b h3 h1 h2
  have hm := NM.down_mul a b h3
  have hc : -1152921504606846976 ≤ NM.down a b ∧ NM.down a b ≤ 1152921504606846976 := hb
  clear hb
  by_cases c1 : b < 2 * (a - NM.down a b * b)
  · have E := hide (NM.even_1 c1)
    go_enter Tryz.func36, Tryz.ntmps36
    go_wp2_with fail
    refine (l1Down_any _ _ _ (by omega) (by omega) (by omega) (by omega)).mono ?_
    rintro e w' ⟨rfl, rfl⟩
    go_wp2
    go_ret
    exact ⟨ret_int (unhide E), rfl⟩
  · by_cases c2 : 2 * (a - NM.down a b * b) < b
    · have E := hide (NM.even_4 (a := a) (b := b) (by omega) (by omega))
      go_enter Tryz.func36, Tryz.ntmps36
      go_wp2_with fail
      refine (l1Down_any _ _ _ (by omega) (by omega) (by omega) (by omega)).mono ?_
      rintro e w' ⟨rfl, rfl⟩
      go_wp2
      go_ret
      exact ⟨ret_int (unhide E), rfl⟩
    · have c4 : (a - NM.down a b * b == b - (a - NM.down a b * b)) = true := beq_iff_eq.2 (by omega)
      cases c3 : (NM.down a b).tmod 2 != 0
      · have E := hide (NM.even_3 (a := a) (b := b) (by omega) c3)
        go_enter Tryz.func36, Tryz.ntmps36
        go_wp2_with fail
        refine (l1Down_any _ _ _ (by omega) (by omega) (by omega) (by omega)).mono ?_
        rintro e w' ⟨rfl, rfl⟩
        go_wp2
        go_ret
        exact ⟨ret_int (unhide E), rfl⟩
      · have E := hide (NM.even_2 (a := a) (b := b) (by omega) c3)
        go_enter Tryz.func36, Tryz.ntmps36
        go_wp2_with fail
        refine (l1Down_any _ _ _ (by omega) (by omega) (by omega) (by omega)).mono ?_
        rintro e w' ⟨rfl, rfl⟩
        go_wp2
        go_ret
        exact ⟨ret_int (unhide E), rfl⟩



theorem isWay_any (y : Int) (w : World) :
    Calls Tryz.prog 52 #[.int .i64 y] w fun e w' => e = .returned (.bool (NM.wayB y)) ∧ w' = w := by
  by_cases h1 : 1 ≤ y
  · by_cases h2 : y ≤ 4
    · have H : Hid (true = NM.wayB y) := (decide_eq_true ⟨h1, h2⟩).symm
      go_enter Tryz.func52, Tryz.ntmps52
      go_wp2
      go_ret
      exact ⟨ret_bool H.out, rfl⟩
    · have H : Hid (false = NM.wayB y) := (decide_eq_false (fun h => h2 h.2)).symm
      go_enter Tryz.func52, Tryz.ntmps52
      go_wp2
      go_ret
      exact ⟨ret_bool H.out, rfl⟩
  · have H : Hid (false = NM.wayB y) := (decide_eq_false (fun h => h1 h.1)).symm
    go_enter Tryz.func52, Tryz.ntmps52
    go_wp2
    go_ret
    exact ⟨ret_bool H.out, rfl⟩

theorem roundingOf_1 (w : World) :
    Calls Tryz.prog 53 #[.int .i64 1] w fun e w' => e = .returned (.func (.func 66) #[] #[]) ∧ Below w.heap.size w w' := by
  go_enter Tryz.func53, Tryz.ntmps53
  go_wp2
  go_ret
  exact ⟨rfl, (Below.refl _ _).alloc (Nat.le_refl _) _⟩
theorem roundingOf_2 (w : World) :
    Calls Tryz.prog 53 #[.int .i64 2] w fun e w' => e = .returned (.func (.func 69) #[] #[]) ∧ Below w.heap.size w w' := by
  go_enter Tryz.func53, Tryz.ntmps53
  go_wp2
  go_ret
  exact ⟨rfl, (Below.refl _ _).alloc (Nat.le_refl _) _⟩
theorem roundingOf_3 (w : World) :
    Calls Tryz.prog 53 #[.int .i64 3] w fun e w' => e = .returned (.func (.func 70) #[] #[]) ∧ Below w.heap.size w w' := by
  go_enter Tryz.func53, Tryz.ntmps53
  go_wp2
  go_ret
  exact ⟨rfl, (Below.refl _ _).alloc (Nat.le_refl _) _⟩
theorem roundingOf_4 (w : World) :
    Calls Tryz.prog 53 #[.int .i64 4] w fun e w' => e = .returned (.func (.func 71) #[] #[]) ∧ Below w.heap.size w w' := by
  go_enter Tryz.func53, Tryz.ntmps53
  go_wp2
  go_ret
  exact ⟨rfl, (Below.refl _ _).alloc (Nat.le_refl _) _⟩







theorem l1Round_any (a b y : Int) (w : World) (h1 : -1152921504606846976 ≤ a) (h2 : a ≤ 1152921504606846976) (h3 : 1 ≤ b) (h4 : b ≤ 1152921504606846976) (hy : NM.wayB y = true) :
    Calls Tryz.prog 16 #[.int .i64 a, .int .i64 b, .int .i64 y] w fun e w' => e = .returned (.int .i64 (NM.rnd a b y)) ∧ w' = w := by
  rcases NM.way_cases hy with rfl | rfl | rfl | rfl
  · clear hy
    go_enter Tryz.func16, Tryz.ntmps16
    go_wp2_with fail
    refine (l1Down_any _ _ _ h1 h2 h3 h4).mono ?_
    rintro e w' ⟨rfl, rfl⟩
    go_wp2
    go_ret
    exact ⟨rfl, rfl⟩
  · clear hy
    go_enter Tryz.func16, Tryz.ntmps16
    go_wp2_with fail
    refine (l1Up_any _ _ _ h1 h2 h3 h4).mono ?_
    rintro e w' ⟨rfl, rfl⟩
    go_wp2
    go_ret
    exact ⟨rfl, rfl⟩
  · clear hy
    by_cases hn : a < 0
    · have H := hide (NM.tdiv_up (b := b) hn)
      go_enter Tryz.func16, Tryz.ntmps16
      go_wp2_with fail
      refine (l1Up_any _ _ _ h1 h2 h3 h4).mono ?_
      rintro e w' ⟨rfl, rfl⟩
      go_wp2
      go_ret
      exact ⟨ret_int (unhide H).symm, rfl⟩
    · have H := hide (NM.tdiv_down (b := b) (show 0 ≤ a by omega))
      go_enter Tryz.func16, Tryz.ntmps16
      go_wp2_with fail
      refine (l1Down_any _ _ _ h1 h2 h3 h4).mono ?_
      rintro e w' ⟨rfl, rfl⟩
      go_wp2
      go_ret
      exact ⟨ret_int (unhide H).symm, rfl⟩
  · clear hy
    go_enter Tryz.func16, Tryz.ntmps16
    go_wp2_with fail
    refine (l1Even_any _ _ _ h1 h2 h3 h4).mono ?_
    rintro e w' ⟨rfl, rfl⟩
    go_wp2
    go_ret
    exact ⟨rfl, rfl⟩


end NW
end Go.Proofs.YtfdkpcejjcifgauGreatDoor
