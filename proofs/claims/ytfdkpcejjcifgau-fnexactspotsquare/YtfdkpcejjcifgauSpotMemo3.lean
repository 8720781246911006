/-
  The program's SpotSquare, SpotDist and SpotNear, by sines that a map keeps.
-/
import Derived.Test.YtfdkpcejjcifgauSpotMemo2
import Derived.Test.YtfdkpcejjcifgauBackImpl
namespace Go.Proofs.Ytfdkpcejjcifgau
open Go.RowKit Go.Sort Go.Maps
set_option linter.unusedVariables false
namespace SK
theorem memo_made (w : World) : Memo (w.alloc (.map #[] 0)) w.heap.size 0 := ⟨_, World.ownsMap_made _ _ _ _, fun h hh => by cases hh⟩
theorem none_local {ops : Array Oper} : LQ.Local ops (fun _ => none) := by
  intro j Φ oj hn
  cases hn
theorem none_keeps {w w' : World} : LQ.Keeps (fun _ => none) w w' := by
  intro i Φ a u hn
  cases hn
set_option maxHeartbeats 2000000 in
theorem spotSquare_any (a l b m : Int) (w : World) : Calls Try.prog 7 #[spV a l, spV b m] w fun e w' => e = .returned (.tuple #[spV (SM.sel (okP a l && okP b m) (SI.sqL a l b m)) (SM.sel (okP a l && okP b m) (SI.sqH a l b m)), .bool (okP a l && okP b m)]) ∧ Below w.heap.size w w' := by
  have P := ((Box.new w a l 28).alloc (.cells #[.int .i64 b, .int .i64 m] 28)).alloc (.cells #[.int .i64 0, .int .i64 0] 25)
  have Q := (Box.new2 w (.cells #[.int .i64 a, .int .i64 l] 28) b m 28).alloc (.cells #[.int .i64 0, .int .i64 0] 25)
  have R : Box (((w.alloc (.cells #[.int .i64 a, .int .i64 l] 28)).alloc (.cells #[.int .i64 b, .int .i64 m] 28)).alloc (.cells #[.int .i64 0, .int .i64 0] 25)) (w.heap.size + 1 + 1) 0 0 := by simpa using Box.new ((w.alloc (.cells #[.int .i64 a, .int .i64 l] 28)).alloc (.cells #[.int .i64 b, .int .i64 m] 28)) 0 0 25
  have B := below1 (below_new2 w (.cells #[.int .i64 a, .int .i64 l] 28) (.cells #[.int .i64 b, .int .i64 m] 28)) (below_new _ (.cells #[.int .i64 0, .int .i64 0] 25))
  have K1 := fun w => spotOk_any a l w
  have K2 := fun w => spotOk_any b m w
  cases h1 : okP a l
  · rw [h1] at K1
    rw [Bool.false_and]
    simp only [SM.sel]
    go_enter Try.func7, Try.ntmps7
    have ⟨P0, P1, P2, P3⟩ := P
    have ⟨Q0, Q1, Q2, Q3⟩ := Q
    have ⟨R0, R1, R2, R3⟩ := R
    go_wp2_with fail
    refine (K1 _).mono ?_
    rintro e w1 ⟨rfl, Bx⟩
    clear P0 P1 P2 P3 Q0 Q1 Q2 Q3 R0 R1 R2 R3
    replace P := P.kept Bx
    replace Q := Q.kept Bx
    replace R := R.kept Bx
    replace B := below1 B Bx
    clear Bx
    have ⟨R0, R1, R2, R3⟩ := R
    go_wp2
    refine bodyPost_ret (v := .tuple #[.agg #[.int .i64 0, .int .i64 0], .bool false]) (by simp [results, Try.results7, go_sem, *]) rfl ⟨rfl, ?_⟩
    exact below_set2 B (by omega) _ _
  · rw [h1] at K1
    cases h2 : okP b m
    · rw [h2] at K2
      rw [Bool.and_false]
      simp only [SM.sel]
      go_enter Try.func7, Try.ntmps7
      have ⟨P0, P1, P2, P3⟩ := P
      have ⟨Q0, Q1, Q2, Q3⟩ := Q
      have ⟨R0, R1, R2, R3⟩ := R
      go_wp2_with fail
      refine (K1 _).mono ?_
      rintro e w1 ⟨rfl, Bx⟩
      clear P0 P1 P2 P3 Q0 Q1 Q2 Q3 R0 R1 R2 R3
      replace P := P.kept Bx
      replace Q := Q.kept Bx
      replace R := R.kept Bx
      replace B := below1 B Bx
      clear Bx
      have ⟨P0, P1, P2, P3⟩ := P
      have ⟨Q0, Q1, Q2, Q3⟩ := Q
      have ⟨R0, R1, R2, R3⟩ := R
      go_wp2_with fail
      refine (K2 _).mono ?_
      rintro e w2 ⟨rfl, Bx⟩
      clear P0 P1 P2 P3 Q0 Q1 Q2 Q3 R0 R1 R2 R3
      replace P := P.kept Bx
      replace Q := Q.kept Bx
      replace R := R.kept Bx
      replace B := below1 B Bx
      clear Bx
      have ⟨R0, R1, R2, R3⟩ := R
      go_wp2
      refine bodyPost_ret (v := .tuple #[.agg #[.int .i64 0, .int .i64 0], .bool false]) (by simp [results, Try.results7, go_sem, *]) rfl ⟨rfl, ?_⟩
      exact below_set2 B (by omega) _ _
    · rw [h2] at K2
      rw [Bool.true_and]
      simp only [SM.sel]
      obtain ⟨⟨a0, a1⟩, l0, l1⟩ := okP_of h1
      obtain ⟨⟨b0, b1⟩, m0, m1⟩ := okP_of h2
      have KQ := fun w c n M hn => msquare_any a l b m c n w M hn a0 a1 l0 l1 b0 b1 m0 m1
      generalize SI.sqL a l b m = p at *
      generalize SI.sqH a l b m = q at *
      have hmm := @run_makeMap Try.prog
      go_enter Try.func7, Try.ntmps7
      have ⟨P0, P1, P2, P3⟩ := P
      have ⟨Q0, Q1, Q2, Q3⟩ := Q
      have ⟨R0, R1, R2, R3⟩ := R
      go_wp2_with fail
      refine (K1 _).mono ?_
      rintro e w1 ⟨rfl, Bx⟩
      clear P0 P1 P2 P3 Q0 Q1 Q2 Q3 R0 R1 R2 R3
      replace P := P.kept Bx
      replace Q := Q.kept Bx
      replace R := R.kept Bx
      replace B := below1 B Bx
      clear Bx
      have ⟨P0, P1, P2, P3⟩ := P
      have ⟨Q0, Q1, Q2, Q3⟩ := Q
      have ⟨R0, R1, R2, R3⟩ := R
      go_wp2_with fail
      refine (K2 _).mono ?_
      rintro e w2 ⟨rfl, Bx⟩
      clear P0 P1 P2 P3 Q0 Q1 Q2 Q3 R0 R1 R2 R3
      replace P := P.kept Bx
      replace Q := Q.kept Bx
      replace R := R.kept Bx
      replace B := below1 B Bx
      clear Bx
      have hs := B.size
      have hR := R.lt
      have ⟨P0, P1, P2, P3⟩ := P.alloc (.map #[] 0)
      have ⟨Q0, Q1, Q2, Q3⟩ := Q.alloc (.map #[] 0)
      go_wp2_with fail
      refine (KQ _ _ 0 (memo_made w2) (by omega)).mono ?_
      rintro e w3 ⟨rfl, M3, T3⟩
      replace R := tchBox (R.alloc (.map #[] 0)) T3 (by omega)
      replace B := (below1 B (below_new w2 (.map #[] 0))).trans (T3.toBelow (by simp; omega) (by omega))
      clear P0 P1 P2 P3 Q0 Q1 Q2 Q3 T3 M3 P Q
      obtain ⟨R0, R1, R2, R3⟩ := R
      go_wp2
      refine bodyPost_ret (v := .tuple #[.agg #[.int .i64 p, .int .i64 q], .bool true]) (by simp [results, Try.results7, go_sem, *]) rfl ⟨rfl, ?_⟩
      exact below_set2 B (by omega) _ _
end SK
end Go.Proofs.Ytfdkpcejjcifgau
