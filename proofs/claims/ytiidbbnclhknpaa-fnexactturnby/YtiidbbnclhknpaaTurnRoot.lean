/-
  How long a way is: what both sides return.
-/
import Derived.Test.YtiidbbnclhknpaaRows
import Derived.Test.YtiidbbnclhknpaaSpanWalks4
import Derived.Test.YtiidbbnclhknpaaSineKit
namespace Go.Proofs.Ytiidbbnclhknpaa
open Go.RowKit Go.Sort
set_option linter.unusedVariables false
namespace SW
open SM
/-- Each is at most half of one, either way. -/
def halfB (u : Int) : Bool := decide (-500000000 ≤ u ∧ u ≤ 500000000)
def wayB (u r : Int) : Bool := halfB u && halfB r
theorem halfB_of {u : Int} (h : halfB u = true) : -500000000 ≤ u ∧ u ≤ 500000000 := of_decide_eq_true h
theorem halfB_mk {u : Int} (h : -500000000 ≤ u ∧ u ≤ 500000000) : halfB u = true := decide_eq_true h
theorem wayB_of {u r : Int} (h : wayB u r = true) : (-500000000 ≤ u ∧ u ≤ 500000000) ∧ -500000000 ≤ r ∧ r ≤ 500000000 := by
  unfold wayB at h
  rw [Bool.and_eq_true] at h
  exact ⟨halfB_of h.1, halfB_of h.2⟩
theorem wayB_mk {u r : Int} (h : (-500000000 ≤ u ∧ u ≤ 500000000) ∧ -500000000 ≤ r ∧ r ≤ 500000000) : wayB u r = true := by
  unfold wayB
  rw [halfB_mk h.1, halfB_mk h.2]
  rfl
theorem sqs_bd {u r : Int} (h : (-500000000 ≤ u ∧ u ≤ 500000000) ∧ -500000000 ≤ r ∧ r ≤ 500000000) : (0 ≤ u * u ∧ u * u ≤ 250000000000000000) ∧ 0 ≤ r * r ∧ r * r ≤ 250000000000000000 := by
  have a := mul_bd (x := u) (y := u) (A := 500000000) (B := 500000000) (by omega) (by omega) (by omega) (by omega)
  have b := mul_bd (x := r) (y := r) (A := 500000000) (B := 500000000) (by omega) (by omega) (by omega) (by omega)
  have c : 0 ≤ u * u := by rcases Int.le_total 0 u with h | h; exact Int.mul_nonneg h h; exact Int.mul_nonneg_of_nonpos_of_nonpos h h
  have d : 0 ≤ r * r := by rcases Int.le_total 0 r with h | h; exact Int.mul_nonneg h h; exact Int.mul_nonneg_of_nonpos_of_nonpos h h
  omega
theorem l22Way_any (u r : Int) (w : World) : Calls Try.prog 17 #[.int .i64 u, .int .i64 r] w fun e w' => e = .returned (.bool (wayB u r)) ∧ w' = w := by
  go_enter Try.func17, Try.ntmps17
  go_wp2_with fail
  refine (NW.l6In_any _ _ _ _).mono ?_
  rintro e w' ⟨rfl, rfl⟩
  cases h1 : NM.inB u (-500000000) 500000000
  · go_wp2
    go_ret
    have e1 : halfB u = false := h1
    exact ⟨NW.ret_bool (by unfold wayB; rw [e1]; rfl), rfl⟩
  · go_wp2_with fail
    refine (NW.l6In_any _ _ _ _).mono ?_
    rintro e w' ⟨rfl, rfl⟩
    go_wp2
    go_ret
    have e1 : halfB u = true := h1
    exact ⟨NW.ret_bool (by unfold wayB; rw [e1]; rfl), rfl⟩
theorem isHalf_any (u : Int) (w : World) : Calls Try.prog 20 #[.int .i64 u] w fun e w' => e = .returned (.bool (halfB u)) ∧ w' = w := by
  by_cases c : -500000000 ≤ u
  · by_cases d : u ≤ 500000000
    · have H : Hid (true = halfB u) := (halfB_mk ⟨c, d⟩).symm
      go_enter Try.func20, Try.ntmps20
      go_wp2
      go_ret
      exact ⟨NW.ret_bool H.out, rfl⟩
    · have H : Hid (false = halfB u) := (decide_eq_false (by omega)).symm
      have d' : decide (u ≤ 500000000) = false := decide_eq_false d
      go_enter Try.func20, Try.ntmps20
      go_wp2
      go_ret
      exact ⟨NW.ret_bool H.out, rfl⟩
  · have H : Hid (false = halfB u) := (decide_eq_false (by omega)).symm
    go_enter Try.func20, Try.ntmps20
    go_wp2
    go_ret
    exact ⟨NW.ret_bool H.out, rfl⟩
theorem sTurnLong_any (u r : Int) (w : World) : Calls Try.prog 8 #[.int .i64 u, .int .i64 r] w fun e w' => e = .returned (.tuple #[spV (sel (wayB u r) (RM.root (u * u + r * r))) (sel (wayB u r) (rup (u * u + r * r))), .bool (wayB u r)]) ∧ Below w.heap.size w w' := by
  have K := fun w => l22Way_any u r w
  cases ho : wayB u r
  · rw [ho] at K
    go_enter Try.func8, Try.ntmps8
    go_wp2_with fail
    refine (K _).mono ?_
    rintro e w' ⟨rfl, rfl⟩
    go_wp2
    refine bodyPost_ret (v := .tuple #[.agg #[.int .i64 0, .int .i64 0], .bool false]) (by simp [results, Try.results8, go_sem, *]) rfl ⟨rfl, ?_⟩
    exact below_new _ _
  · rw [ho] at K
    obtain ⟨⟨m0, m1⟩, m2, m3⟩ := sqs_bd (wayB_of ho)
    clear ho
    have q1 := fun w => NW.l1Root_any (u * u + r * r) w (by omega) (by omega)
    have q2 := fun w => l2RootUp_any (u * u + r * r) w (by omega) (by omega)
    simp only [sel]
    generalize RM.root (u * u + r * r) = lo at *
    generalize rup (u * u + r * r) = hi at *
    go_enter Try.func8, Try.ntmps8
    go_wp2_with fail
    refine (K _).mono ?_
    rintro e w' ⟨rfl, rfl⟩
    go_wp2_with fail
    refine (q1 _).mono ?_
    rintro e w' ⟨rfl, rfl⟩
    go_wp2_with fail
    refine (q2 _).mono ?_
    rintro e w' ⟨rfl, rfl⟩
    go_wp2
    refine bodyPost_ret (v := .tuple #[.agg #[.int .i64 lo, .int .i64 hi], .bool true]) (by simp [results, Try.results8, go_sem, *]) rfl ⟨rfl, ?_⟩
    exact below_new _ _
theorem setRoot_any (b : Nat) (x y n : Int) (w : World) (h0 : 0 ≤ n) (h1 : n ≤ 1152921504606846976) (X : Box w b x y) :
    Calls Try.prog 21 #[.pointer (some ⟨b, 0, none⟩), .pointer (some ⟨b, 1, none⟩), .int .i64 n] w fun e w' => e = .returned (.tuple #[]) ∧ w' = (w.setCell ⟨b, 0, none⟩ (.int .i64 (RM.root n))).setCell ⟨b, 1, none⟩ (.int .i64 (rup n)) := by
  have q1 := fun w => rootDown_any n w h0 h1
  have q2 := fun w => rootUp_any n w h0 h1
  generalize RM.root n = lo at *
  generalize rup n = hi at *
  obtain ⟨c0, c1, f0, f1⟩ := X
  go_enter Try.func21, Try.ntmps21
  go_wp2_with fail
  refine (q1 _).mono ?_
  rintro e w' ⟨rfl, rfl⟩
  go_wp2_with fail
  refine (q2 _).mono ?_
  rintro e w' ⟨rfl, rfl⟩
  go_wp2
  go_end0
  exact ⟨rfl, rfl⟩
theorem turnLong_any (u r : Int) (w : World) : Calls Try.prog 9 #[.int .i64 u, .int .i64 r] w fun e w' => e = .returned (.tuple #[spV (sel (wayB u r) (RM.root (u * u + r * r))) (sel (wayB u r) (rup (u * u + r * r))), .bool (wayB u r)]) ∧ Below w.heap.size w w' := by
  have K1 := fun w => isHalf_any u w
  have K2 := fun w => isHalf_any r w
  cases h1 : halfB u
  · have ho : wayB u r = false := by unfold wayB; rw [h1]; rfl
    rw [ho]
    rw [h1] at K1
    clear ho h1
    go_enter Try.func9, Try.ntmps9
    go_wp2_with fail
    refine (K1 _).mono ?_
    rintro e w' ⟨rfl, rfl⟩
    go_wp2
    refine bodyPost_ret (v := .tuple #[.agg #[.int .i64 0, .int .i64 0], .bool false]) (by simp [results, Try.results9, go_sem, *]) rfl ⟨rfl, ?_⟩
    exact below_new _ _
  · cases h2 : halfB r
    · have ho : wayB u r = false := by unfold wayB; rw [h1, h2]; rfl
      rw [ho]
      rw [h1] at K1
      rw [h2] at K2
      clear ho h1 h2
      go_enter Try.func9, Try.ntmps9
      go_wp2_with fail
      refine (K1 _).mono ?_
      rintro e w' ⟨rfl, rfl⟩
      go_wp2_with fail
      refine (K2 _).mono ?_
      rintro e w' ⟨rfl, rfl⟩
      go_wp2
      refine bodyPost_ret (v := .tuple #[.agg #[.int .i64 0, .int .i64 0], .bool false]) (by simp [results, Try.results9, go_sem, *]) rfl ⟨rfl, ?_⟩
      exact below_new _ _
    · have ho : wayB u r = true := by unfold wayB; rw [h1, h2]; rfl
      obtain ⟨⟨m0, m1⟩, m2, m3⟩ := sqs_bd (wayB_of ho)
      rw [ho]
      rw [h1] at K1
      rw [h2] at K2
      clear ho h1 h2
      have q1 := fun b x y w => setRoot_any b x y (u * u + r * r) w (by omega) (by omega)
      simp only [sel]
      generalize RM.root (u * u + r * r) = lo at *
      generalize rup (u * u + r * r) = hi at *
      have R := Box.new w 0 0 26
      have L := Box.new2 w (.cells #[.int .i64 0, .int .i64 0] 26) 0 0 26
      replace R := R.alloc (.cells #[.int .i64 0, .int .i64 0] 26)
      have B := below_new2 w (.cells #[.int .i64 0, .int .i64 0] 26) (.cells #[.int .i64 0, .int .i64 0] 26)
      go_enter Try.func9, Try.ntmps9
      go_wp2_with fail
      refine (K1 _).mono ?_
      rintro e w' ⟨rfl, rfl⟩
      go_wp2_with fail
      refine (K2 _).mono ?_
      rintro e w' ⟨rfl, rfl⟩
      go_wp2_with fail
      refine (q1 _ _ _ _ L).mono ?_
      rintro e w' ⟨rfl, rfl⟩
      have R' := (R.apart (c := w.heap.size + 1) (o := 0) (by omega) (.int .i64 lo)).apart (c := w.heap.size + 1) (o := 1) (by omega) (.int .i64 hi)
      have L' := L.set lo hi
      replace B := below_set2 B (b := w.heap.size + 1) (by omega) (.int .i64 lo) (.int .i64 hi)
      generalize (((w.alloc (.cells #[.int .i64 0, .int .i64 0] 26)).alloc (.cells #[.int .i64 0, .int .i64 0] 26)).setCell ⟨w.heap.size + 1, 0, none⟩ (.int .i64 lo)).setCell ⟨w.heap.size + 1, 1, none⟩ (.int .i64 hi) = w1 at *
      clear R L
      obtain ⟨c0, c1, f0, f1⟩ := R'
      obtain ⟨d0, d1, g0, g1⟩ := L'
      go_wp2
      refine bodyPost_ret (v := .tuple #[.agg #[.int .i64 lo, .int .i64 hi], .bool true]) (by simp [results, Try.results9, go_sem, *]) rfl ⟨rfl, ?_⟩
      exact below_set2 B (by omega) _ _
end SW
end Go.Proofs.Ytiidbbnclhknpaa
