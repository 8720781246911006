/-
  What the program's WayOf returns.
-/
import Derived.Test.YtfdkpcejjcifgasBackImpl2
namespace Go.Proofs.Ytfdkpcejjcifgas
open Go.RowKit Go.Sort
set_option linter.unusedVariables false
namespace SK
set_option maxHeartbeats 4000000 in
theorem wayOf_any (u r : Int) (w : World) (hu0 : -9223372036854775807 ≤ u) (hr0 : -9223372036854775807 ≤ r) :
    Calls Try.prog 14 #[.int .i64 u, .int .i64 r] w fun e w' => e = .returned (.tuple #[spV (SM.sel (okW u r) (wyL u r)) (SM.sel (okW u r) (wyH u r)), .bool (okW u r)]) ∧ Below w.heap.size w w' := by
  have K1 := fun w => isOne_any u w
  have K2 := fun w => isOne_any r w
  cases h1 : okU u
  · have e : okW u r = false := by unfold okW; rw [h1]; rfl
    rw [h1] at K1
    rw [e]
    clear e
    go_enter Try.func14, Try.ntmps14
    go_wp2_with fail
    refine (K1 _).mono ?_
    rintro e w' ⟨rfl, rfl⟩
    go_wp2
    refine bodyPost_ret (v := .tuple #[.agg #[.int .i64 0, .int .i64 0], .bool false]) (by simp [results, Try.results14, go_sem]) rfl ⟨rfl, below_new _ _⟩
  · rw [h1] at K1
    cases h2 : okU r
    · have e : okW u r = false := by unfold okW; rw [h1, h2]; rfl
      rw [h2] at K2
      rw [e]
      clear e
      go_enter Try.func14, Try.ntmps14
      go_wp2_with fail
      refine (K1 _).mono ?_
      rintro e w' ⟨rfl, rfl⟩
      go_wp2_with fail
      refine (K2 _).mono ?_
      rintro e w' ⟨rfl, rfl⟩
      go_wp2
      refine bodyPost_ret (v := .tuple #[.agg #[.int .i64 0, .int .i64 0], .bool false]) (by simp [results, Try.results14, go_sem]) rfl ⟨rfl, below_new _ _⟩
    · rw [h2] at K2
      obtain ⟨a0, a1⟩ := okU_of h1
      obtain ⟨b0, b1⟩ := okU_of h2
      by_cases z : u = 0 ∧ r = 0
      · obtain ⟨rfl, rfl⟩ := z
        have e : okW 0 0 = false := rfl
        rw [e]
        clear e
        go_enter Try.func14, Try.ntmps14
        go_wp2_with fail
        refine (K1 _).mono ?_
        rintro e w' ⟨rfl, rfl⟩
        go_wp2_with fail
        refine (K2 _).mono ?_
        rintro e w' ⟨rfl, rfl⟩
        go_wp2
        refine bodyPost_ret (v := .tuple #[.agg #[.int .i64 0, .int .i64 0], .bool false]) (by simp [results, Try.results14, go_sem]) rfl ⟨rfl, below_new _ _⟩
      · have e : okW u r = true := by
          unfold okW
          rw [h1, h2]
          cases hx : (u == 0 && r == 0) with
          | false => rfl
          | true => simp at hx; exact absurd hx z
        rw [e]
        simp only [SM.sel]
        have D := fun w => way_any (max u (-u)) (max r (-r)) w (by omega) (by omega) (by omega) (by omega)
        have W := SI.wq_of (u := max u (-u)) (r := max r (-r)) (by omega) (by omega)
        obtain ⟨_, _, l0, l1, g0, g1⟩ := W
        clear e
        have EL : Hide (wyL u r = if u < 0 then -rtH u r else rtL u r) := ⟨rfl⟩
        have EH : Hide (wyH u r = if u < 0 then -rtL u r else rtH u r) := ⟨rfl⟩
        have RL : Hide (rtL u r = if r < 0 then 64800000 - SI.wqH (max u (-u)) (max r (-r)) else SI.wqL (max u (-u)) (max r (-r))) := ⟨rfl⟩
        have RH : Hide (rtH u r = if r < 0 then 64800000 - SI.wqL (max u (-u)) (max r (-r)) else SI.wqH (max u (-u)) (max r (-r))) := ⟨rfl⟩
        generalize SI.wqL (max u (-u)) (max r (-r)) = p at *
        generalize SI.wqH (max u (-u)) (max r (-r)) = q at *
        have fin : ∀ x y, wyL u r = x → wyH u r = y → ((.returned (.tuple #[.agg #[.int .i64 x, .int .i64 y], .bool true]) : Ending) = .returned (.tuple #[spV (wyL u r) (wyH u r), .bool true])) := fun x y hx hy => by rw [hx, hy]
        by_cases zr : r < 0 <;> by_cases zu : u < 0
        all_goals rcases (show ¬ u = 0 ∨ (u = 0 ∧ ¬ r = 0) by omega) with c | ⟨rfl, c⟩
        all_goals first | omega | skip
        · go_enter Try.func14, Try.ntmps14
          go_wp2_with fail
          refine (K1 _).mono ?_
          rintro e w' ⟨rfl, rfl⟩
          go_wp2_with fail
          refine (K2 _).mono ?_
          rintro e w' ⟨rfl, rfl⟩
          go_wp2_with fail
          refine (D _).mono ?_
          rintro e w1 ⟨rfl, B1⟩
          have R := ((Box.new w 0 0 23).kept B1).alloc (.cells #[.int .i64 (p), .int .i64 (q)] 23)
          have X := Box.new w1 p q 23
          have B := below1 (below1 (below_new w (.cells #[.int .i64 (0), .int .i64 (0)] 23)) B1) (below_new w1 (.cells #[.int .i64 (p), .int .i64 (q)] 23))
          have hne : w1.heap.size ≠ w.heap.size := by have := B1.size; simp at this; omega
          have hle : w.heap.size ≤ w1.heap.size := by have := B1.size; simp at this; omega
          clear K1 K2 D h1 h2 B1
          have T1 := fun w => aboutFrom_any (p) (q) 64800000 w (by omega) (by omega) (by omega) (by omega) (by omega) (by omega)
          have ⟨x0, x1, x2, x3⟩ := X
          go_wp2_with fail
          clear x0 x1 x2 x3
          refine (T1 _).mono ?_
          rintro e v1 ⟨rfl, B1⟩
          replace R := R.kept B1
          replace X := X.kept B1
          replace B := below1 B B1
          clear B1 T1
          have T2 := fun w => aboutFrom_any (64800000 - (q)) (64800000 - (p)) 0 w (by omega) (by omega) (by omega) (by omega) (by omega) (by omega)
          simp only [Int.zero_sub] at T2
          have ⟨x0, x1, x2, x3⟩ := X
          go_wp2_with fail
          clear x0 x1 x2 x3
          replace X := X.set (64800000 - (q)) (64800000 - (p))
          replace R := (R.apart (c := w1.heap.size) (o := 0) hne (.int .i64 (64800000 - (q)))).apart (c := w1.heap.size) (o := 1) hne (.int .i64 (64800000 - (p)))
          replace B := below_set2 B hle (.int .i64 (64800000 - (q))) (.int .i64 (64800000 - (p)))
          refine (T2 _).mono ?_
          rintro e v2 ⟨rfl, B1⟩
          replace R := R.kept B1
          replace X := X.kept B1
          replace B := below1 B B1
          clear B1 T2
          have ⟨x0, x1, x2, x3⟩ := X
          have ⟨r0, r1, r2, r3⟩ := R
          have ⟨s0, s1, s2, s3⟩ := (R.apart (c := w1.heap.size) (o := 0) hne (.int .i64 (-(64800000 - (p))))).apart (c := w1.heap.size) (o := 1) hne (.int .i64 (-(64800000 - (q))))
          replace B := below_set2 B hle (.int .i64 (-(64800000 - (p)))) (.int .i64 (-(64800000 - (q))))
          clear X R
          go_wp2
          refine bodyPost_ret (v := .tuple #[.agg #[.int .i64 (-(64800000 - (p))), .int .i64 (-(64800000 - (q)))], .bool true]) (by simp [results, Try.results14, go_sem, *]) rfl ⟨fin _ _ (by rw [EL.out, if_pos (by omega), RH.out, if_pos (by omega)]) (by rw [EH.out, if_pos (by omega), RL.out, if_pos (by omega)]), ?_⟩
          exact below_set2 B (Nat.le_refl _) _ _
        · go_enter Try.func14, Try.ntmps14
          go_wp2_with fail
          refine (K1 _).mono ?_
          rintro e w' ⟨rfl, rfl⟩
          go_wp2_with fail
          refine (K2 _).mono ?_
          rintro e w' ⟨rfl, rfl⟩
          go_wp2_with fail
          refine (D _).mono ?_
          rintro e w1 ⟨rfl, B1⟩
          have R := ((Box.new w 0 0 23).kept B1).alloc (.cells #[.int .i64 (p), .int .i64 (q)] 23)
          have X := Box.new w1 p q 23
          have B := below1 (below1 (below_new w (.cells #[.int .i64 (0), .int .i64 (0)] 23)) B1) (below_new w1 (.cells #[.int .i64 (p), .int .i64 (q)] 23))
          have hne : w1.heap.size ≠ w.heap.size := by have := B1.size; simp at this; omega
          have hle : w.heap.size ≤ w1.heap.size := by have := B1.size; simp at this; omega
          clear K1 K2 D h1 h2 B1
          have T1 := fun w => aboutFrom_any (p) (q) 64800000 w (by omega) (by omega) (by omega) (by omega) (by omega) (by omega)
          have ⟨x0, x1, x2, x3⟩ := X
          go_wp2_with fail
          clear x0 x1 x2 x3
          refine (T1 _).mono ?_
          rintro e v1 ⟨rfl, B1⟩
          replace R := R.kept B1
          replace X := X.kept B1
          replace B := below1 B B1
          clear B1 T1
          have ⟨x0, x1, x2, x3⟩ := X
          have ⟨r0, r1, r2, r3⟩ := R
          have ⟨s0, s1, s2, s3⟩ := (R.apart (c := w1.heap.size) (o := 0) hne (.int .i64 (64800000 - (q)))).apart (c := w1.heap.size) (o := 1) hne (.int .i64 (64800000 - (p)))
          replace B := below_set2 B hle (.int .i64 (64800000 - (q))) (.int .i64 (64800000 - (p)))
          clear X R
          go_wp2
          refine bodyPost_ret (v := .tuple #[.agg #[.int .i64 (64800000 - (q)), .int .i64 (64800000 - (p))], .bool true]) (by simp [results, Try.results14, go_sem, *]) rfl ⟨fin _ _ (by rw [EL.out, if_neg (by omega), RL.out, if_pos (by omega)]) (by rw [EH.out, if_neg (by omega), RH.out, if_pos (by omega)]), ?_⟩
          exact below_set2 B (Nat.le_refl _) _ _
        · go_enter Try.func14, Try.ntmps14
          go_wp2_with fail
          refine (K1 _).mono ?_
          rintro e w' ⟨rfl, rfl⟩
          go_wp2_with fail
          refine (K2 _).mono ?_
          rintro e w' ⟨rfl, rfl⟩
          go_wp2_with fail
          try simp only [Int.neg_zero, Int.max_self] at D
          refine (D _).mono ?_
          rintro e w1 ⟨rfl, B1⟩
          have R := ((Box.new w 0 0 23).kept B1).alloc (.cells #[.int .i64 (p), .int .i64 (q)] 23)
          have X := Box.new w1 p q 23
          have B := below1 (below1 (below_new w (.cells #[.int .i64 (0), .int .i64 (0)] 23)) B1) (below_new w1 (.cells #[.int .i64 (p), .int .i64 (q)] 23))
          have hne : w1.heap.size ≠ w.heap.size := by have := B1.size; simp at this; omega
          have hle : w.heap.size ≤ w1.heap.size := by have := B1.size; simp at this; omega
          clear K1 K2 D h1 h2 B1
          have T1 := fun w => aboutFrom_any (p) (q) 64800000 w (by omega) (by omega) (by omega) (by omega) (by omega) (by omega)
          have ⟨x0, x1, x2, x3⟩ := X
          go_wp2_with fail
          clear x0 x1 x2 x3
          refine (T1 _).mono ?_
          rintro e v1 ⟨rfl, B1⟩
          replace R := R.kept B1
          replace X := X.kept B1
          replace B := below1 B B1
          clear B1 T1
          have ⟨x0, x1, x2, x3⟩ := X
          have ⟨r0, r1, r2, r3⟩ := R
          have ⟨s0, s1, s2, s3⟩ := (R.apart (c := w1.heap.size) (o := 0) hne (.int .i64 (64800000 - (q)))).apart (c := w1.heap.size) (o := 1) hne (.int .i64 (64800000 - (p)))
          replace B := below_set2 B hle (.int .i64 (64800000 - (q))) (.int .i64 (64800000 - (p)))
          clear X R
          go_wp2
          refine bodyPost_ret (v := .tuple #[.agg #[.int .i64 (64800000 - (q)), .int .i64 (64800000 - (p))], .bool true]) (by simp [results, Try.results14, go_sem, *]) rfl ⟨fin _ _ (by rw [EL.out, if_neg (by omega), RL.out, if_pos (by omega)]) (by rw [EH.out, if_neg (by omega), RH.out, if_pos (by omega)]), ?_⟩
          exact below_set2 B (Nat.le_refl _) _ _
        · go_enter Try.func14, Try.ntmps14
          go_wp2_with fail
          refine (K1 _).mono ?_
          rintro e w' ⟨rfl, rfl⟩
          go_wp2_with fail
          refine (K2 _).mono ?_
          rintro e w' ⟨rfl, rfl⟩
          go_wp2_with fail
          refine (D _).mono ?_
          rintro e w1 ⟨rfl, B1⟩
          have R := ((Box.new w 0 0 23).kept B1).alloc (.cells #[.int .i64 (p), .int .i64 (q)] 23)
          have X := Box.new w1 p q 23
          have B := below1 (below1 (below_new w (.cells #[.int .i64 (0), .int .i64 (0)] 23)) B1) (below_new w1 (.cells #[.int .i64 (p), .int .i64 (q)] 23))
          have hne : w1.heap.size ≠ w.heap.size := by have := B1.size; simp at this; omega
          have hle : w.heap.size ≤ w1.heap.size := by have := B1.size; simp at this; omega
          clear K1 K2 D h1 h2 B1
          have T1 := fun w => aboutFrom_any (p) (q) 0 w (by omega) (by omega) (by omega) (by omega) (by omega) (by omega)
          simp only [Int.zero_sub] at T1
          have ⟨x0, x1, x2, x3⟩ := X
          go_wp2_with fail
          clear x0 x1 x2 x3
          refine (T1 _).mono ?_
          rintro e v1 ⟨rfl, B1⟩
          replace R := R.kept B1
          replace X := X.kept B1
          replace B := below1 B B1
          clear B1 T1
          have ⟨x0, x1, x2, x3⟩ := X
          have ⟨r0, r1, r2, r3⟩ := R
          have ⟨s0, s1, s2, s3⟩ := (R.apart (c := w1.heap.size) (o := 0) hne (.int .i64 (-(q)))).apart (c := w1.heap.size) (o := 1) hne (.int .i64 (-(p)))
          replace B := below_set2 B hle (.int .i64 (-(q))) (.int .i64 (-(p)))
          clear X R
          go_wp2
          refine bodyPost_ret (v := .tuple #[.agg #[.int .i64 (-(q)), .int .i64 (-(p))], .bool true]) (by simp [results, Try.results14, go_sem, *]) rfl ⟨fin _ _ (by rw [EL.out, if_pos (by omega), RH.out, if_neg (by omega)]) (by rw [EH.out, if_pos (by omega), RL.out, if_neg (by omega)]), ?_⟩
          exact below_set2 B (Nat.le_refl _) _ _
        · go_enter Try.func14, Try.ntmps14
          go_wp2_with fail
          refine (K1 _).mono ?_
          rintro e w' ⟨rfl, rfl⟩
          go_wp2_with fail
          refine (K2 _).mono ?_
          rintro e w' ⟨rfl, rfl⟩
          go_wp2_with fail
          refine (D _).mono ?_
          rintro e w1 ⟨rfl, B1⟩
          have R := ((Box.new w 0 0 23).kept B1).alloc (.cells #[.int .i64 (p), .int .i64 (q)] 23)
          have X := Box.new w1 p q 23
          have B := below1 (below1 (below_new w (.cells #[.int .i64 (0), .int .i64 (0)] 23)) B1) (below_new w1 (.cells #[.int .i64 (p), .int .i64 (q)] 23))
          have hne : w1.heap.size ≠ w.heap.size := by have := B1.size; simp at this; omega
          have hle : w.heap.size ≤ w1.heap.size := by have := B1.size; simp at this; omega
          clear K1 K2 D h1 h2 B1
          have ⟨x0, x1, x2, x3⟩ := X
          have ⟨r0, r1, r2, r3⟩ := R
          clear X R
          go_wp2
          refine bodyPost_ret (v := .tuple #[.agg #[.int .i64 (p), .int .i64 (q)], .bool true]) (by simp [results, Try.results14, go_sem, *]) rfl ⟨fin _ _ (by rw [EL.out, if_neg (by omega), RL.out, if_neg (by omega)]) (by rw [EH.out, if_neg (by omega), RH.out, if_neg (by omega)]), ?_⟩
          exact below_set2 B (Nat.le_refl _) _ _
        · go_enter Try.func14, Try.ntmps14
          go_wp2_with fail
          refine (K1 _).mono ?_
          rintro e w' ⟨rfl, rfl⟩
          go_wp2_with fail
          refine (K2 _).mono ?_
          rintro e w' ⟨rfl, rfl⟩
          go_wp2_with fail
          try simp only [Int.neg_zero, Int.max_self] at D
          refine (D _).mono ?_
          rintro e w1 ⟨rfl, B1⟩
          have R := ((Box.new w 0 0 23).kept B1).alloc (.cells #[.int .i64 (p), .int .i64 (q)] 23)
          have X := Box.new w1 p q 23
          have B := below1 (below1 (below_new w (.cells #[.int .i64 (0), .int .i64 (0)] 23)) B1) (below_new w1 (.cells #[.int .i64 (p), .int .i64 (q)] 23))
          have hne : w1.heap.size ≠ w.heap.size := by have := B1.size; simp at this; omega
          have hle : w.heap.size ≤ w1.heap.size := by have := B1.size; simp at this; omega
          clear K1 K2 D h1 h2 B1
          have ⟨x0, x1, x2, x3⟩ := X
          have ⟨r0, r1, r2, r3⟩ := R
          clear X R
          go_wp2
          refine bodyPost_ret (v := .tuple #[.agg #[.int .i64 (p), .int .i64 (q)], .bool true]) (by simp [results, Try.results14, go_sem, *]) rfl ⟨fin _ _ (by rw [EL.out, if_neg (by omega), RL.out, if_neg (by omega)]) (by rw [EH.out, if_neg (by omega), RH.out, if_neg (by omega)]), ?_⟩
          exact below_set2 B (Nat.le_refl _) _ _
end SK
end Go.Proofs.Ytfdkpcejjcifgas
