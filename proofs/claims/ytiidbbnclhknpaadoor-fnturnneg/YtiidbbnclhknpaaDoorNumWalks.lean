/-
  What the functions of chapter 1 (the program's, and the model's of the specification) return, a contract each.
-/
import Derived.Test.YtiidbbnclhknpaaDoorRows
import Derived.Test.YtiidbbnclhknpaaDoorNumMath
import Derived.WalkKit
import Derived.Below
import Derived.Laws.EntriesVeiled
namespace Go.Proofs.YtiidbbnclhknpaaDoor
open Go.RowKit
set_option linter.unusedVariables false

namespace NW

theorem hide {p : Prop} (h : p) : Hid p := h
theorem unhide {p : Prop} (h : Hid p) : p := h.out
theorem ret_int {k : IntKind} {a b : Int} (h : a = b) : Ending.returned (.int k a) = .returned (.int k b) := by rw [h]

theorem ret_two {k : IntKind} {a b : Int} {c d : Bool} (h : a = b) (g : c = d) : Ending.returned (.tuple #[.int k a, .bool c]) = .returned (.tuple #[.int k b, .bool d]) := by rw [h, g]

theorem ret_bool {a b : Bool} (h : a = b) : Ending.returned (.bool a) = .returned (.bool b) := by rw [h]

theorem roundDown_any (a b : Int) (w : World) (h1 : -1152921504606846976 ≤ a) (h2 : a ≤ 1152921504606846976) (h3 : 1 ≤ b) (h4 : b ≤ 1152921504606846976) :
    Calls Tryd.prog 41 #[.int .i64 a, .int .i64 b] w fun e w' => e = .returned (.int .i64 (NM.down a b)) ∧ w' = w := by
  have hb := NM.tdiv_bd a b h3 h1 h2
  have hz : (b == 0) = false := by simp; omega
  by_cases h : a.tmod b < 0
  · have H : Hid (a.tdiv b - 1 = a / b) := NM.tdiv_neg_case a b h3 h
    go_enter Tryd.func41, Tryd.ntmps41
    go_wp2
    go_ret
    exact ⟨ret_int H.out, rfl⟩
  · have H : Hid (a.tdiv b = a / b) := NM.tdiv_nonneg_case a b h3 h
    go_enter Tryd.func41, Tryd.ntmps41
    go_wp2
    go_ret
    exact ⟨ret_int H.out, rfl⟩

theorem roundUp_any (a b : Int) (w : World) (h1 : -1152921504606846976 ≤ a) (h2 : a ≤ 1152921504606846976) (h3 : 1 ≤ b) (h4 : b ≤ 1152921504606846976) :
    Calls Tryd.prog 46 #[.int .i64 a, .int .i64 b] w fun e w' => e = .returned (.int .i64 (NM.up a b)) ∧ w' = w := by
  have hb := NM.div_bd (-a) b h3 (by omega) (by omega)
  go_enter Tryd.func46, Tryd.ntmps46
  go_wp2_with fail
  refine (roundDown_any _ _ _ (by omega) (by omega) (by omega) (by omega)).mono ?_
  rintro e w' ⟨rfl, rfl⟩
  have hc : -1152921504606846976 ≤ NM.down (-a) b ∧ NM.down (-a) b ≤ 1152921504606846976 := hb
  go_wp2
  go_ret
  exact ⟨rfl, rfl⟩

theorem roundZero_any (a b : Int) (w : World) (h1 : -1152921504606846976 ≤ a) (h2 : a ≤ 1152921504606846976) (h3 : 1 ≤ b) (h4 : b ≤ 1152921504606846976) :
    Calls Tryd.prog 57 #[.int .i64 a, .int .i64 b] w fun e w' => e = .returned (.int .i64 (a.tdiv b)) ∧ w' = w := by
  have hb := NM.tdiv_bd a b h3 h1 h2
  have hz : (b == 0) = false := by simp; omega
  go_enter Tryd.func57, Tryd.ntmps57
  go_wp2
  go_ret
  exact ⟨rfl, rfl⟩

theorem roundEven_any (a b : Int) (w : World) (h1 : -1152921504606846976 ≤ a) (h2 : a ≤ 1152921504606846976) (h3 : 1 ≤ b) (h4 : b ≤ 1152921504606846976) :
    Calls Tryd.prog 58 #[.int .i64 a, .int .i64 b] w fun e w' => e = .returned (.int .i64 (NM.even a b)) ∧ w' = w := by
  have hb := NM.div_bd a b h3 h1 h2
  have hm := NM.down_mul a b h3
  go_enter Tryd.func58, Tryd.ntmps58
  go_wp2_with fail
  refine (roundDown_any _ _ _ (by omega) (by omega) (by omega) (by omega)).mono ?_
  rintro e w' ⟨rfl, rfl⟩
  have hc : -1152921504606846976 ≤ NM.down a b ∧ NM.down a b ≤ 1152921504606846976 := hb
  go_wp2
  all_goals go_ret
  · exact ⟨ret_int (NM.even_2 ‹_› ‹_›), rfl⟩
  · exact ⟨ret_int (NM.even_3 ‹_› ‹_›), rfl⟩
  · exact ⟨ret_int (NM.even_4 ‹_› ‹_›), rfl⟩
  · exact ⟨ret_int (NM.even_1 ‹_›), rfl⟩

theorem l6In_any (n lo hi : Int) (w : World) :
    Calls Tryd.prog 33 #[.int .i64 n, .int .i64 lo, .int .i64 hi] w fun e w' => e = .returned (.bool (NM.inB n lo hi)) ∧ w' = w := by
  by_cases h1 : lo ≤ n
  · by_cases h2 : n ≤ hi
    · have H : Hid (true = NM.inB n lo hi) := (decide_eq_true ⟨h1, h2⟩).symm
      go_enter Tryd.func33, Tryd.ntmps33
      go_wp2
      go_ret
      exact ⟨ret_bool H.out, rfl⟩
    · have H : Hid (false = NM.inB n lo hi) := (decide_eq_false (fun h => h2 h.2)).symm
      go_enter Tryd.func33, Tryd.ntmps33
      go_wp2
      go_ret
      exact ⟨ret_bool H.out, rfl⟩
  · have H : Hid (false = NM.inB n lo hi) := (decide_eq_false (fun h => h1 h.1)).symm
    go_enter Tryd.func33, Tryd.ntmps33
    go_wp2
    go_ret
    exact ⟨ret_bool H.out, rfl⟩

theorem l1Down_any (a b : Int) (w : World) (h1 : -1152921504606846976 ≤ a) (h2 : a ≤ 1152921504606846976) (h3 : 1 ≤ b) (h4 : b ≤ 1152921504606846976) :
    Calls Tryd.prog 34 #[.int .i64 a, .int .i64 b] w fun e w' => e = .returned (.int .i64 (NM.down a b)) ∧ w' = w := by
  have hb := NM.div_bd a b h3 h1 h2
  have hz : (b == 0) = false := by simp; omega
  by_cases h : 0 ≤ a
  · go_enter Tryd.func34, Tryd.ntmps34
    go_wp2
    go_ret
    exact ⟨rfl, rfl⟩
  · have H : Hid (-((-a + b - 1) / b) = a / b) := NM.up_case a b h3
    have hc : -1152921504606846976 ≤ (-a + b - 1) / b ∧ (-a + b - 1) / b ≤ 1152921504606846976 := by have := H.out; omega
    go_enter Tryd.func34, Tryd.ntmps34
    go_wp2
    go_ret
    exact ⟨ret_int H.out, rfl⟩

theorem l1Up_any (a b : Int) (w : World) (h1 : -1152921504606846976 ≤ a) (h2 : a ≤ 1152921504606846976) (h3 : 1 ≤ b) (h4 : b ≤ 1152921504606846976) :
    Calls Tryd.prog 40 #[.int .i64 a, .int .i64 b] w fun e w' => e = .returned (.int .i64 (NM.up a b)) ∧ w' = w := by
  have hb := NM.div_bd (-a) b h3 (by omega) (by omega)
  go_enter Tryd.func40, Tryd.ntmps40
  go_wp2_with fail
  refine (l1Down_any _ _ _ (by omega) (by omega) (by omega) (by omega)).mono ?_
  rintro e w' ⟨rfl, rfl⟩
  have hc : -1152921504606846976 ≤ NM.down (-a) b ∧ NM.down (-a) b ≤ 1152921504606846976 := hb
  go_wp2
  go_ret
  exact ⟨rfl, rfl⟩



theorem mayDivide_any (a b : Int) (w : World) :
    Calls Tryd.prog 47 #[.int .i64 a, .int .i64 b] w fun e w' => e = .returned (.bool (NM.okB a b)) ∧ w' = w := by
  cases h : NM.okB a b
  · have hn := NM.not_ok h
    clear h
    by_cases h1 : -1152921504606846976 ≤ a
    · by_cases h2 : a ≤ 1152921504606846976
      · by_cases h3 : 1 ≤ b
        · have h4 : ¬ b ≤ 1152921504606846976 := fun h4 => hn ⟨h1, h2, h3, h4⟩
          clear hn
          go_enter Tryd.func47, Tryd.ntmps47
          go_wp2
          go_ret
          exact ⟨rfl, rfl⟩
        · clear hn
          go_enter Tryd.func47, Tryd.ntmps47
          go_wp2
          go_ret
          exact ⟨rfl, rfl⟩
      · clear hn
        go_enter Tryd.func47, Tryd.ntmps47
        go_wp2
        go_ret
        exact ⟨rfl, rfl⟩
    · clear hn
      go_enter Tryd.func47, Tryd.ntmps47
      go_wp2
      go_ret
      exact ⟨rfl, rfl⟩
  · obtain ⟨h1, h2, h3, h4⟩ := NM.ok_of h
    clear h
    go_enter Tryd.func47, Tryd.ntmps47
    go_wp2
    go_ret
    exact ⟨rfl, rfl⟩

theorem isWay_any (y : Int) (w : World) :
    Calls Tryd.prog 48 #[.int .i64 y] w fun e w' => e = .returned (.bool (NM.wayB y)) ∧ w' = w := by
  by_cases h1 : 1 ≤ y
  · by_cases h2 : y ≤ 4
    · have H : Hid (true = NM.wayB y) := (decide_eq_true ⟨h1, h2⟩).symm
      go_enter Tryd.func48, Tryd.ntmps48
      go_wp2
      go_ret
      exact ⟨ret_bool H.out, rfl⟩
    · have H : Hid (false = NM.wayB y) := (decide_eq_false (fun h => h2 h.2)).symm
      go_enter Tryd.func48, Tryd.ntmps48
      go_wp2
      go_ret
      exact ⟨ret_bool H.out, rfl⟩
  · have H : Hid (false = NM.wayB y) := (decide_eq_false (fun h => h1 h.1)).symm
    go_enter Tryd.func48, Tryd.ntmps48
    go_wp2
    go_ret
    exact ⟨ret_bool H.out, rfl⟩

theorem roundingOf_1 (w : World) :
    Calls Tryd.prog 49 #[.int .i64 1] w fun e w' => e = .returned (.func (.func 41) #[] #[]) ∧ Below w.heap.size w w' := by
  go_enter Tryd.func49, Tryd.ntmps49
  go_wp2
  go_ret
  exact ⟨rfl, (Below.refl _ _).alloc (Nat.le_refl _) _⟩
theorem roundingOf_2 (w : World) :
    Calls Tryd.prog 49 #[.int .i64 2] w fun e w' => e = .returned (.func (.func 46) #[] #[]) ∧ Below w.heap.size w w' := by
  go_enter Tryd.func49, Tryd.ntmps49
  go_wp2
  go_ret
  exact ⟨rfl, (Below.refl _ _).alloc (Nat.le_refl _) _⟩
theorem roundingOf_3 (w : World) :
    Calls Tryd.prog 49 #[.int .i64 3] w fun e w' => e = .returned (.func (.func 57) #[] #[]) ∧ Below w.heap.size w w' := by
  go_enter Tryd.func49, Tryd.ntmps49
  go_wp2
  go_ret
  exact ⟨rfl, (Below.refl _ _).alloc (Nat.le_refl _) _⟩
theorem roundingOf_4 (w : World) :
    Calls Tryd.prog 49 #[.int .i64 4] w fun e w' => e = .returned (.func (.func 58) #[] #[]) ∧ Below w.heap.size w w' := by
  go_enter Tryd.func49, Tryd.ntmps49
  go_wp2
  go_ret
  exact ⟨rfl, (Below.refl _ _).alloc (Nat.le_refl _) _⟩

theorem numRound_1 (a b : Int) (w : World) (h : NM.okB a b = true) :
    Calls Tryd.prog 30 #[.int .i64 a, .int .i64 b, .int .i64 1] w fun e w' => e = .returned (.tuple #[.int .i64 (NM.down a b), .bool true]) ∧ Below w.heap.size w w' := by
  obtain ⟨h1, h2, h3, h4⟩ := NM.ok_of h
  have hy : NM.wayB 1 = true := rfl
  go_enter Tryd.func30, Tryd.ntmps30
  go_wp2_with fail
  refine (mayDivide_any _ _ _).mono ?_
  rintro e w' ⟨rfl, rfl⟩
  go_wp2_with fail
  refine (isWay_any _ _).mono ?_
  rintro e w' ⟨rfl, rfl⟩
  go_wp2_with fail
  refine (roundingOf_1 _).mono ?_
  rintro e w' ⟨rfl, hb⟩
  go_wp2_with fail
  refine (roundDown_any _ _ _ h1 h2 h3 h4).mono ?_
  rintro e w' ⟨rfl, rfl⟩
  go_wp2
  go_ret2
  exact ⟨rfl, hb⟩
theorem numRound_2 (a b : Int) (w : World) (h : NM.okB a b = true) :
    Calls Tryd.prog 30 #[.int .i64 a, .int .i64 b, .int .i64 2] w fun e w' => e = .returned (.tuple #[.int .i64 (NM.up a b), .bool true]) ∧ Below w.heap.size w w' := by
  obtain ⟨h1, h2, h3, h4⟩ := NM.ok_of h
  have hy : NM.wayB 2 = true := rfl
  go_enter Tryd.func30, Tryd.ntmps30
  go_wp2_with fail
  refine (mayDivide_any _ _ _).mono ?_
  rintro e w' ⟨rfl, rfl⟩
  go_wp2_with fail
  refine (isWay_any _ _).mono ?_
  rintro e w' ⟨rfl, rfl⟩
  go_wp2_with fail
  refine (roundingOf_2 _).mono ?_
  rintro e w' ⟨rfl, hb⟩
  go_wp2_with fail
  refine (roundUp_any _ _ _ h1 h2 h3 h4).mono ?_
  rintro e w' ⟨rfl, rfl⟩
  go_wp2
  go_ret2
  exact ⟨rfl, hb⟩
theorem numRound_3 (a b : Int) (w : World) (h : NM.okB a b = true) :
    Calls Tryd.prog 30 #[.int .i64 a, .int .i64 b, .int .i64 3] w fun e w' => e = .returned (.tuple #[.int .i64 (a.tdiv b), .bool true]) ∧ Below w.heap.size w w' := by
  obtain ⟨h1, h2, h3, h4⟩ := NM.ok_of h
  have hy : NM.wayB 3 = true := rfl
  go_enter Tryd.func30, Tryd.ntmps30
  go_wp2_with fail
  refine (mayDivide_any _ _ _).mono ?_
  rintro e w' ⟨rfl, rfl⟩
  go_wp2_with fail
  refine (isWay_any _ _).mono ?_
  rintro e w' ⟨rfl, rfl⟩
  go_wp2_with fail
  refine (roundingOf_3 _).mono ?_
  rintro e w' ⟨rfl, hb⟩
  go_wp2_with fail
  refine (roundZero_any _ _ _ h1 h2 h3 h4).mono ?_
  rintro e w' ⟨rfl, rfl⟩
  go_wp2
  go_ret2
  exact ⟨rfl, hb⟩
theorem numRound_4 (a b : Int) (w : World) (h : NM.okB a b = true) :
    Calls Tryd.prog 30 #[.int .i64 a, .int .i64 b, .int .i64 4] w fun e w' => e = .returned (.tuple #[.int .i64 (NM.even a b), .bool true]) ∧ Below w.heap.size w w' := by
  obtain ⟨h1, h2, h3, h4⟩ := NM.ok_of h
  have hy : NM.wayB 4 = true := rfl
  go_enter Tryd.func30, Tryd.ntmps30
  go_wp2_with fail
  refine (mayDivide_any _ _ _).mono ?_
  rintro e w' ⟨rfl, rfl⟩
  go_wp2_with fail
  refine (isWay_any _ _).mono ?_
  rintro e w' ⟨rfl, rfl⟩
  go_wp2_with fail
  refine (roundingOf_4 _).mono ?_
  rintro e w' ⟨rfl, hb⟩
  go_wp2_with fail
  refine (roundEven_any _ _ _ h1 h2 h3 h4).mono ?_
  rintro e w' ⟨rfl, rfl⟩
  go_wp2
  go_ret2
  exact ⟨rfl, hb⟩


theorem numRound_no1 (a b y : Int) (w : World) (h : NM.okB a b = false) :
    Calls Tryd.prog 30 #[.int .i64 a, .int .i64 b, .int .i64 y] w fun e w' => e = .returned (.tuple #[.int .i64 0, .bool false]) ∧ Below w.heap.size w w' := by
  go_enter Tryd.func30, Tryd.ntmps30
  go_wp2_with fail
  refine (mayDivide_any _ _ _).mono ?_
  rintro e w' ⟨rfl, rfl⟩
  go_wp2
  go_ret2
  exact ⟨rfl, Below.refl _ _⟩
theorem numRound_no2 (a b y : Int) (w : World) (h : NM.okB a b = true) (k : NM.wayB y = false) :
    Calls Tryd.prog 30 #[.int .i64 a, .int .i64 b, .int .i64 y] w fun e w' => e = .returned (.tuple #[.int .i64 0, .bool false]) ∧ Below w.heap.size w w' := by
  go_enter Tryd.func30, Tryd.ntmps30
  go_wp2_with fail
  refine (mayDivide_any _ _ _).mono ?_
  rintro e w' ⟨rfl, rfl⟩
  go_wp2_with fail
  refine (isWay_any _ _).mono ?_
  rintro e w' ⟨rfl, rfl⟩
  go_wp2
  go_ret2
  exact ⟨rfl, Below.refl _ _⟩
theorem numRound_any (a b y : Int) (w : World) :
    Calls Tryd.prog 30 #[.int .i64 a, .int .i64 b, .int .i64 y] w fun e w' => e = .returned (.tuple #[.int .i64 (NM.roundV a b y), .bool (NM.roundB a b y)]) ∧ Below w.heap.size w w' := by
  cases h : NM.okB a b
  · have e := NM.roundB_no1 (y := y) h
    refine (numRound_no1 a b y w h).mono ?_
    rintro _ w' ⟨rfl, hb⟩
    exact ⟨ret_two (NM.roundV_no e).symm e.symm, hb⟩
  · cases k : NM.wayB y
    · have e := NM.roundB_no2 (a := a) (b := b) k
      refine (numRound_no2 a b y w h k).mono ?_
      rintro _ w' ⟨rfl, hb⟩
      exact ⟨ret_two (NM.roundV_no e).symm e.symm, hb⟩
    · have e := NM.roundB_of h k
      rcases NM.way_cases k with rfl | rfl | rfl | rfl
      · refine (numRound_1 a b w h).mono ?_
        rintro _ w' ⟨rfl, hb⟩
        exact ⟨ret_two ((NM.rnd1 a b).symm.trans (NM.roundV_of e).symm) e.symm, hb⟩
      · refine (numRound_2 a b w h).mono ?_
        rintro _ w' ⟨rfl, hb⟩
        exact ⟨ret_two ((NM.rnd2 a b).symm.trans (NM.roundV_of e).symm) e.symm, hb⟩
      · refine (numRound_3 a b w h).mono ?_
        rintro _ w' ⟨rfl, hb⟩
        exact ⟨ret_two ((NM.rnd3 a b).symm.trans (NM.roundV_of e).symm) e.symm, hb⟩
      · refine (numRound_4 a b w h).mono ?_
        rintro _ w' ⟨rfl, hb⟩
        exact ⟨ret_two ((NM.rnd4 a b).symm.trans (NM.roundV_of e).symm) e.symm, hb⟩

theorem numDown_any (a b : Int) (w : World) :
    Calls Tryd.prog 9 #[.int .i64 a, .int .i64 b] w fun e w' => e = .returned (.tuple #[.int .i64 (NM.roundV a b 1), .bool (NM.roundB a b 1)]) ∧ Below w.heap.size w w' := by
  go_enter Tryd.func9, Tryd.ntmps9
  go_wp2_with fail
  refine (numRound_any _ _ _ _).mono ?_
  rintro e w' ⟨rfl, hb⟩
  go_wp2
  go_ret2
  exact ⟨rfl, hb⟩

theorem numUp_any (a b : Int) (w : World) :
    Calls Tryd.prog 10 #[.int .i64 a, .int .i64 b] w fun e w' => e = .returned (.tuple #[.int .i64 (NM.roundV a b 2), .bool (NM.roundB a b 2)]) ∧ Below w.heap.size w w' := by
  go_enter Tryd.func10, Tryd.ntmps10
  go_wp2_with fail
  refine (numRound_any _ _ _ _).mono ?_
  rintro e w' ⟨rfl, hb⟩
  go_wp2
  go_ret2
  exact ⟨rfl, hb⟩





end NW
end Go.Proofs.YtiidbbnclhknpaaDoor
