/-
  What the specification's functions on places return: SpotFar, SpotDist.
-/
import Derived.Test.YtfdkpcejjcifgauDoorSpotWalks2
import Derived.Test.YtfdkpcejjcifgauDoorSpotBook
namespace Go.Proofs.YtfdkpcejjcifgauDoor
open Go.RowKit Go.Sort
set_option linter.unusedVariables false
namespace SK
set_option maxHeartbeats 2000000 in
theorem sSpotDist_any (a l b m : Int) (w : World) : Calls Tryd.prog 5 #[spV a l, spV b m] w fun e w' => e = .returned (.tuple #[spV (SM.sel (okP a l && okP b m) (SI.dsL a l b m)) (SM.sel (okP a l && okP b m) (SI.dsH a l b m)), .bool (okP a l && okP b m)]) ∧ Below w.heap.size w w' := by
  have K0 := fun w => sSpotSquare_any a l b m w
  cases h : (okP a l && okP b m)
  · rw [h] at K0
    simp only [SM.sel] at *
    have P := SW.Box.new w (a) (l) 28
    have B := SW.below_new w (.cells #[.int .i64 (a), .int .i64 (l)] 28)
    replace P := P.alloc (.cells #[.int .i64 (b), .int .i64 (m)] 28)
    have Q : SW.Box ((w.alloc (.cells #[.int .i64 (a), .int .i64 (l)] 28)).alloc (.cells #[.int .i64 (b), .int .i64 (m)] 28)) (w.heap.size + 1) (b) (m) := by simpa using SW.Box.new (w.alloc (.cells #[.int .i64 (a), .int .i64 (l)] 28)) (b) (m) 28
    replace B := SW.below1 B (SW.below_new (w.alloc (.cells #[.int .i64 (a), .int .i64 (l)] 28)) (.cells #[.int .i64 (b), .int .i64 (m)] 28))
    replace P := P.alloc (.cells #[.int .i64 (0), .int .i64 (0)] 25)
    replace Q := Q.alloc (.cells #[.int .i64 (0), .int .i64 (0)] 25)
    have R : SW.Box (((w.alloc (.cells #[.int .i64 (a), .int .i64 (l)] 28)).alloc (.cells #[.int .i64 (b), .int .i64 (m)] 28)).alloc (.cells #[.int .i64 (0), .int .i64 (0)] 25)) (w.heap.size + 1 + 1) (0) (0) := by simpa using SW.Box.new ((w.alloc (.cells #[.int .i64 (a), .int .i64 (l)] 28)).alloc (.cells #[.int .i64 (b), .int .i64 (m)] 28)) (0) (0) 25
    replace B := SW.below1 B (SW.below_new ((w.alloc (.cells #[.int .i64 (a), .int .i64 (l)] 28)).alloc (.cells #[.int .i64 (b), .int .i64 (m)] 28)) (.cells #[.int .i64 (0), .int .i64 (0)] 25))
    go_enter Tryd.func5, Tryd.ntmps5
    have ⟨P0, P1, P2, P3⟩ := P
    have ⟨Q0, Q1, Q2, Q3⟩ := Q
    have ⟨R0, R1, R2, R3⟩ := R
    go_wp2_with fail
    refine (K0 _).mono ?_
    rintro e v1 ⟨rfl, Bx⟩
    clear P0 P1 P2 P3 Q0 Q1 Q2 Q3 R0 R1 R2 R3
    replace P := P.kept Bx
    replace Q := Q.kept Bx
    replace R := R.kept Bx
    replace B := SW.below1 B Bx
    clear Bx
    replace P := P.alloc (.cells #[.int .i64 (0), .int .i64 (0)] 34)
    replace Q := Q.alloc (.cells #[.int .i64 (0), .int .i64 (0)] 34)
    replace R := R.alloc (.cells #[.int .i64 (0), .int .i64 (0)] 34)
    have S := SW.Box.new v1 (0) (0) 34
    replace B := SW.below1 B (SW.below_new v1 (.cells #[.int .i64 (0), .int .i64 (0)] 34))
    have ⟨P0, P1, P2, P3⟩ := P
    have ⟨Q0, Q1, Q2, Q3⟩ := Q
    have ⟨R0, R1, R2, R3⟩ := R
    have ⟨S0, S1, S2, S3⟩ := S
    go_wp2
    refine bodyPost_ret (v := .tuple #[.agg #[.int .i64 0, .int .i64 0], .bool false]) (by simp [results, Tryd.results5, go_sem, *]) rfl ⟨rfl, ?_⟩
    exact SW.below_set2 B (by omega) _ _
  · rw [h] at K0
    simp only [SM.sel] at *
    have sb := SI.sq_bd a l b m
    have sle := SI.sq_le a l b m
    have rb : SM.rootB (SI.sqL a l b m) (SI.sqH a l b m) = true := SM.root_mk (SM.okS_mk (by omega)) sb.1
    have K1 : ∀ w, Calls Tryd.prog 12 #[spV (SI.sqL a l b m) (SI.sqH a l b m)] w fun e w' => e = .returned (.tuple #[spV (SM.rtLo (SI.sqL a l b m)) (SM.rtHi (SI.sqH a l b m)), .bool true]) ∧ Below w.heap.size w w' := fun w => by have := SW.sSpanRoot_any (SI.sqL a l b m) (SI.sqH a l b m) w; rw [rb] at this; exact this
    have r1 := SI.rt_bd sb.1
    have r2 := SI.rtm_mono sb.1 sle
    have o1 : okU (min (SM.rtLo (SI.sqL a l b m)) 1000000000) = true := decide_eq_true (p := -1000000000 ≤ _ ∧ _ ≤ 1000000000) ⟨by omega, by omega⟩
    have o2 : okU (min (SM.rtHi (SI.sqH a l b m)) 1000000000) = true := decide_eq_true (p := -1000000000 ≤ _ ∧ _ ≤ 1000000000) ⟨by omega, by omega⟩
    have K2 : ∀ w, Calls Tryd.prog 13 #[.int .i64 (min (SM.rtLo (SI.sqL a l b m)) 1000000000)] w fun e w' => e = .returned (.tuple #[spV (SI.sbL (min (SM.rtLo (SI.sqL a l b m)) 1000000000)) (SI.sbH (min (SM.rtLo (SI.sqL a l b m)) 1000000000)), .bool true]) ∧ Below w.heap.size w w' := fun w => by have := sSineBack_any (min (SM.rtLo (SI.sqL a l b m)) 1000000000) w; rw [o1] at this; exact this
    have K3 : ∀ w, Calls Tryd.prog 13 #[.int .i64 (min (SM.rtHi (SI.sqH a l b m)) 1000000000)] w fun e w' => e = .returned (.tuple #[spV (SI.sbL (min (SM.rtHi (SI.sqH a l b m)) 1000000000)) (SI.sbH (min (SM.rtHi (SI.sqH a l b m)) 1000000000)), .bool true]) ∧ Below w.heap.size w w' := fun w => by have := sSineBack_any (min (SM.rtHi (SI.sqH a l b m)) 1000000000) w; rw [o2] at this; exact this
    have EL : Hide (SI.dsL a l b m = max (2 * SI.sbL (min (SM.rtLo (SI.sqL a l b m)) 1000000000)) 0) := ⟨rfl⟩
    have EH : Hide (SI.dsH a l b m = 2 * SI.sbH (min (SM.rtHi (SI.sqH a l b m)) 1000000000)) := ⟨rfl⟩
    obtain ⟨_, _, z1, z2, z3, z4⟩ := SI.sb_of (x := min (SM.rtLo (SI.sqL a l b m)) 1000000000) (by omega) (by omega)
    obtain ⟨_, _, z5, z6, z7, z8⟩ := SI.sb_of (x := min (SM.rtHi (SI.sqH a l b m)) 1000000000) (by omega) (by omega)
    rw [EL.out, EH.out]
    clear EL EH o1 o2 rb r1 r2 sb sle
    generalize SI.sbL (min (SM.rtLo (SI.sqL a l b m)) 1000000000) = p1 at *
    generalize SI.sbH (min (SM.rtLo (SI.sqL a l b m)) 1000000000) = p2 at *
    generalize SI.sbL (min (SM.rtHi (SI.sqH a l b m)) 1000000000) = p3 at *
    generalize SI.sbH (min (SM.rtHi (SI.sqH a l b m)) 1000000000) = p4 at *
    generalize SM.rtLo (SI.sqL a l b m) = r1 at *
    generalize SM.rtHi (SI.sqH a l b m) = r2 at *
    generalize SI.sqL a l b m = s1 at *
    generalize SI.sqH a l b m = s2 at *
    have P := SW.Box.new w (a) (l) 28
    have B := SW.below_new w (.cells #[.int .i64 (a), .int .i64 (l)] 28)
    replace P := P.alloc (.cells #[.int .i64 (b), .int .i64 (m)] 28)
    have Q : SW.Box ((w.alloc (.cells #[.int .i64 (a), .int .i64 (l)] 28)).alloc (.cells #[.int .i64 (b), .int .i64 (m)] 28)) (w.heap.size + 1) (b) (m) := by simpa using SW.Box.new (w.alloc (.cells #[.int .i64 (a), .int .i64 (l)] 28)) (b) (m) 28
    replace B := SW.below1 B (SW.below_new (w.alloc (.cells #[.int .i64 (a), .int .i64 (l)] 28)) (.cells #[.int .i64 (b), .int .i64 (m)] 28))
    replace P := P.alloc (.cells #[.int .i64 (0), .int .i64 (0)] 25)
    replace Q := Q.alloc (.cells #[.int .i64 (0), .int .i64 (0)] 25)
    have R : SW.Box (((w.alloc (.cells #[.int .i64 (a), .int .i64 (l)] 28)).alloc (.cells #[.int .i64 (b), .int .i64 (m)] 28)).alloc (.cells #[.int .i64 (0), .int .i64 (0)] 25)) (w.heap.size + 1 + 1) (0) (0) := by simpa using SW.Box.new ((w.alloc (.cells #[.int .i64 (a), .int .i64 (l)] 28)).alloc (.cells #[.int .i64 (b), .int .i64 (m)] 28)) (0) (0) 25
    replace B := SW.below1 B (SW.below_new ((w.alloc (.cells #[.int .i64 (a), .int .i64 (l)] 28)).alloc (.cells #[.int .i64 (b), .int .i64 (m)] 28)) (.cells #[.int .i64 (0), .int .i64 (0)] 25))
    go_enter Tryd.func5, Tryd.ntmps5
    have ⟨P0, P1, P2, P3⟩ := P
    have ⟨Q0, Q1, Q2, Q3⟩ := Q
    have ⟨R0, R1, R2, R3⟩ := R
    go_wp2_with fail
    refine (K0 _).mono ?_
    rintro e v1 ⟨rfl, Bx⟩
    clear P0 P1 P2 P3 Q0 Q1 Q2 Q3 R0 R1 R2 R3
    replace P := P.kept Bx
    replace Q := Q.kept Bx
    replace R := R.kept Bx
    replace B := SW.below1 B Bx
    clear Bx
    replace P := P.alloc (.cells #[.int .i64 (s1), .int .i64 (s2)] 34)
    replace Q := Q.alloc (.cells #[.int .i64 (s1), .int .i64 (s2)] 34)
    replace R := R.alloc (.cells #[.int .i64 (s1), .int .i64 (s2)] 34)
    have S := SW.Box.new v1 (s1) (s2) 34
    replace B := SW.below1 B (SW.below_new v1 (.cells #[.int .i64 (s1), .int .i64 (s2)] 34))
    clear P Q
    have ⟨R0, R1, R2, R3⟩ := R
    have ⟨S0, S1, S2, S3⟩ := S
    go_wp2_with fail
    refine (K1 _).mono ?_
    rintro e v2 ⟨rfl, Bx⟩
    clear R0 R1 R2 R3 S0 S1 S2 S3
    replace R := R.kept Bx
    replace S := S.kept Bx
    replace B := SW.below1 B Bx
    clear Bx
    replace R := R.alloc (.cells #[.int .i64 (r1), .int .i64 (r2)] 34)
    replace S := S.alloc (.cells #[.int .i64 (r1), .int .i64 (r2)] 34)
    have T := SW.Box.new v2 (r1) (r2) 34
    replace B := SW.below1 B (SW.below_new v2 (.cells #[.int .i64 (r1), .int .i64 (r2)] 34))
    have ⟨R0, R1, R2, R3⟩ := R
    have ⟨S0, S1, S2, S3⟩ := S
    have ⟨T0, T1, T2, T3⟩ := T
    go_wp2_with fail
    refine (K2 _).mono ?_
    rintro e v3 ⟨rfl, Bx⟩
    clear R0 R1 R2 R3 S0 S1 S2 S3 T0 T1 T2 T3
    replace R := R.kept Bx
    replace S := S.kept Bx
    replace T := T.kept Bx
    replace B := SW.below1 B Bx
    clear Bx
    replace R := R.alloc (.cells #[.int .i64 (p1), .int .i64 (p2)] 25)
    replace S := S.alloc (.cells #[.int .i64 (p1), .int .i64 (p2)] 25)
    replace T := T.alloc (.cells #[.int .i64 (p1), .int .i64 (p2)] 25)
    have X := SW.Box.new v3 (p1) (p2) 25
    replace B := SW.below1 B (SW.below_new v3 (.cells #[.int .i64 (p1), .int .i64 (p2)] 25))
    have ⟨R0, R1, R2, R3⟩ := R
    have ⟨S0, S1, S2, S3⟩ := S
    have ⟨T0, T1, T2, T3⟩ := T
    have ⟨X0, X1, X2, X3⟩ := X
    go_wp2_with fail
    refine (K3 _).mono ?_
    rintro e v4 ⟨rfl, Bx⟩
    clear R0 R1 R2 R3 S0 S1 S2 S3 T0 T1 T2 T3 X0 X1 X2 X3
    replace R := R.kept Bx
    replace S := S.kept Bx
    replace T := T.kept Bx
    replace X := X.kept Bx
    replace B := SW.below1 B Bx
    clear Bx
    replace R := R.alloc (.cells #[.int .i64 (p3), .int .i64 (p4)] 25)
    replace S := S.alloc (.cells #[.int .i64 (p3), .int .i64 (p4)] 25)
    replace T := T.alloc (.cells #[.int .i64 (p3), .int .i64 (p4)] 25)
    replace X := X.alloc (.cells #[.int .i64 (p3), .int .i64 (p4)] 25)
    have Y := SW.Box.new v4 (p3) (p4) 25
    replace B := SW.below1 B (SW.below_new v4 (.cells #[.int .i64 (p3), .int .i64 (p4)] 25))
    have ⟨R0, R1, R2, R3⟩ := R
    have ⟨S0, S1, S2, S3⟩ := S
    have ⟨T0, T1, T2, T3⟩ := T
    have ⟨X0, X1, X2, X3⟩ := X
    have ⟨Y0, Y1, Y2, Y3⟩ := Y
    go_wp2
    refine bodyPost_ret (v := .tuple #[.agg #[.int .i64 (max (2 * p1) 0), .int .i64 (2 * p4)], .bool true]) (by simp [results, Tryd.results5, go_sem, *]) rfl ⟨rfl, ?_⟩
    exact SW.below_set2 B (by omega) _ _
end SK
end Go.Proofs.YtfdkpcejjcifgauDoor
