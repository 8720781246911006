/-
  What the specification's SpotNear returns.
-/
import Derived.Test.YtfdkpcejjcifgauDoorSpotWalks3
import Derived.Test.YtfdkpcejjcifgauDoorSureWalks
namespace Go.Proofs.YtfdkpcejjcifgauDoor
open Go.RowKit Go.Sort
set_option linter.unusedVariables false
namespace SK
/-- Whether one place is nearer than another one. -/
def nearV (g n a l b m : Int) : Int := match (okP g n && okP a l), (okP g n && okP b m) with
  | true, true => (match sameB a l b m with | true => 2 | false => SR.lessV (SI.sqL g n a l) (SI.sqH g n a l) (SI.sqL g n b m) (SI.sqH g n b m))
  | _, _ => 3
set_option maxHeartbeats 2000000 in
theorem sSpotNear_any (g n a l b m : Int) (w : World) : Calls Tryd.prog 9 #[spV g n, spV a l, spV b m] w fun e w' => e = .returned (.int .i64 (nearV g n a l b m)) ∧ Below w.heap.size w w' := by
  have K1 := fun w => sSpotSquare_any g n a l w
  have K2 := fun w => sSpotSquare_any g n b m w
  have K3 := fun w => sSpotSame_any a l b m w
  cases h1 : (okP g n && okP a l)
  · cases h2 : (okP g n && okP b m)
    · rw [h1] at K1
      rw [h2] at K2
      simp only [SM.sel] at K1 K2
      have E : Hide (3 = nearV g n a l b m) := ⟨by unfold nearV; rw [h1, h2]⟩
      clear h1 h2
      have G := SW.Box.new w (g) (n) 28
      have B := SW.below_new w (.cells #[.int .i64 (g), .int .i64 (n)] 28)
      replace G := G.alloc (.cells #[.int .i64 (a), .int .i64 (l)] 28)
      have P : SW.Box ((w.alloc (.cells #[.int .i64 (g), .int .i64 (n)] 28)).alloc (.cells #[.int .i64 (a), .int .i64 (l)] 28)) (w.heap.size + 1) (a) (l) := by simpa using SW.Box.new (w.alloc (.cells #[.int .i64 (g), .int .i64 (n)] 28)) (a) (l) 28
      replace B := SW.below1 B (SW.below_new (w.alloc (.cells #[.int .i64 (g), .int .i64 (n)] 28)) (.cells #[.int .i64 (a), .int .i64 (l)] 28))
      replace G := G.alloc (.cells #[.int .i64 (b), .int .i64 (m)] 28)
      replace P := P.alloc (.cells #[.int .i64 (b), .int .i64 (m)] 28)
      have Q : SW.Box (((w.alloc (.cells #[.int .i64 (g), .int .i64 (n)] 28)).alloc (.cells #[.int .i64 (a), .int .i64 (l)] 28)).alloc (.cells #[.int .i64 (b), .int .i64 (m)] 28)) (w.heap.size + 1 + 1) (b) (m) := by simpa using SW.Box.new ((w.alloc (.cells #[.int .i64 (g), .int .i64 (n)] 28)).alloc (.cells #[.int .i64 (a), .int .i64 (l)] 28)) (b) (m) 28
      replace B := SW.below1 B (SW.below_new ((w.alloc (.cells #[.int .i64 (g), .int .i64 (n)] 28)).alloc (.cells #[.int .i64 (a), .int .i64 (l)] 28)) (.cells #[.int .i64 (b), .int .i64 (m)] 28))
      go_enter Tryd.func9, Tryd.ntmps9
      have ⟨G0, G1, G2, G3⟩ := G
      have ⟨P0, P1, P2, P3⟩ := P
      have ⟨Q0, Q1, Q2, Q3⟩ := Q
      go_wp2_with fail
      refine (K1 _).mono ?_
      rintro e v1 ⟨rfl, Bx⟩
      clear G0 G1 G2 G3 P0 P1 P2 P3 Q0 Q1 Q2 Q3
      replace G := G.kept Bx
      replace P := P.kept Bx
      replace Q := Q.kept Bx
      replace B := SW.below1 B Bx
      clear Bx
      replace G := G.alloc (.cells #[.int .i64 (0), .int .i64 (0)] 34)
      replace P := P.alloc (.cells #[.int .i64 (0), .int .i64 (0)] 34)
      replace Q := Q.alloc (.cells #[.int .i64 (0), .int .i64 (0)] 34)
      have S := SW.Box.new v1 (0) (0) 34
      replace B := SW.below1 B (SW.below_new v1 (.cells #[.int .i64 (0), .int .i64 (0)] 34))
      have ⟨G0, G1, G2, G3⟩ := G
      have ⟨P0, P1, P2, P3⟩ := P
      have ⟨Q0, Q1, Q2, Q3⟩ := Q
      have ⟨S0, S1, S2, S3⟩ := S
      go_wp2_with fail
      refine (K2 _).mono ?_
      rintro e v2 ⟨rfl, Bx⟩
      clear G0 G1 G2 G3 P0 P1 P2 P3 Q0 Q1 Q2 Q3 S0 S1 S2 S3
      replace G := G.kept Bx
      replace P := P.kept Bx
      replace Q := Q.kept Bx
      replace S := S.kept Bx
      replace B := SW.below1 B Bx
      clear Bx
      replace G := G.alloc (.cells #[.int .i64 (0), .int .i64 (0)] 34)
      replace P := P.alloc (.cells #[.int .i64 (0), .int .i64 (0)] 34)
      replace Q := Q.alloc (.cells #[.int .i64 (0), .int .i64 (0)] 34)
      replace S := S.alloc (.cells #[.int .i64 (0), .int .i64 (0)] 34)
      have T := SW.Box.new v2 (0) (0) 34
      replace B := SW.below1 B (SW.below_new v2 (.cells #[.int .i64 (0), .int .i64 (0)] 34))
      have ⟨G0, G1, G2, G3⟩ := G
      have ⟨P0, P1, P2, P3⟩ := P
      have ⟨Q0, Q1, Q2, Q3⟩ := Q
      have ⟨S0, S1, S2, S3⟩ := S
      have ⟨T0, T1, T2, T3⟩ := T
      go_wp2
      go_ret
      exact ⟨NW.ret_int E.out, B⟩
    · rw [h1] at K1
      rw [h2] at K2
      simp only [SM.sel] at K1 K2
      have E : Hide (3 = nearV g n a l b m) := ⟨by unfold nearV; rw [h1, h2]⟩
      generalize SI.sqL g n b m = t1 at *
      generalize SI.sqH g n b m = t2 at *
      clear h1 h2
      have G := SW.Box.new w (g) (n) 28
      have B := SW.below_new w (.cells #[.int .i64 (g), .int .i64 (n)] 28)
      replace G := G.alloc (.cells #[.int .i64 (a), .int .i64 (l)] 28)
      have P : SW.Box ((w.alloc (.cells #[.int .i64 (g), .int .i64 (n)] 28)).alloc (.cells #[.int .i64 (a), .int .i64 (l)] 28)) (w.heap.size + 1) (a) (l) := by simpa using SW.Box.new (w.alloc (.cells #[.int .i64 (g), .int .i64 (n)] 28)) (a) (l) 28
      replace B := SW.below1 B (SW.below_new (w.alloc (.cells #[.int .i64 (g), .int .i64 (n)] 28)) (.cells #[.int .i64 (a), .int .i64 (l)] 28))
      replace G := G.alloc (.cells #[.int .i64 (b), .int .i64 (m)] 28)
      replace P := P.alloc (.cells #[.int .i64 (b), .int .i64 (m)] 28)
      have Q : SW.Box (((w.alloc (.cells #[.int .i64 (g), .int .i64 (n)] 28)).alloc (.cells #[.int .i64 (a), .int .i64 (l)] 28)).alloc (.cells #[.int .i64 (b), .int .i64 (m)] 28)) (w.heap.size + 1 + 1) (b) (m) := by simpa using SW.Box.new ((w.alloc (.cells #[.int .i64 (g), .int .i64 (n)] 28)).alloc (.cells #[.int .i64 (a), .int .i64 (l)] 28)) (b) (m) 28
      replace B := SW.below1 B (SW.below_new ((w.alloc (.cells #[.int .i64 (g), .int .i64 (n)] 28)).alloc (.cells #[.int .i64 (a), .int .i64 (l)] 28)) (.cells #[.int .i64 (b), .int .i64 (m)] 28))
      go_enter Tryd.func9, Tryd.ntmps9
      have ⟨G0, G1, G2, G3⟩ := G
      have ⟨P0, P1, P2, P3⟩ := P
      have ⟨Q0, Q1, Q2, Q3⟩ := Q
      go_wp2_with fail
      refine (K1 _).mono ?_
      rintro e v1 ⟨rfl, Bx⟩
      clear G0 G1 G2 G3 P0 P1 P2 P3 Q0 Q1 Q2 Q3
      replace G := G.kept Bx
      replace P := P.kept Bx
      replace Q := Q.kept Bx
      replace B := SW.below1 B Bx
      clear Bx
      replace G := G.alloc (.cells #[.int .i64 (0), .int .i64 (0)] 34)
      replace P := P.alloc (.cells #[.int .i64 (0), .int .i64 (0)] 34)
      replace Q := Q.alloc (.cells #[.int .i64 (0), .int .i64 (0)] 34)
      have S := SW.Box.new v1 (0) (0) 34
      replace B := SW.below1 B (SW.below_new v1 (.cells #[.int .i64 (0), .int .i64 (0)] 34))
      have ⟨G0, G1, G2, G3⟩ := G
      have ⟨P0, P1, P2, P3⟩ := P
      have ⟨Q0, Q1, Q2, Q3⟩ := Q
      have ⟨S0, S1, S2, S3⟩ := S
      go_wp2_with fail
      refine (K2 _).mono ?_
      rintro e v2 ⟨rfl, Bx⟩
      clear G0 G1 G2 G3 P0 P1 P2 P3 Q0 Q1 Q2 Q3 S0 S1 S2 S3
      replace G := G.kept Bx
      replace P := P.kept Bx
      replace Q := Q.kept Bx
      replace S := S.kept Bx
      replace B := SW.below1 B Bx
      clear Bx
      replace G := G.alloc (.cells #[.int .i64 (t1), .int .i64 (t2)] 34)
      replace P := P.alloc (.cells #[.int .i64 (t1), .int .i64 (t2)] 34)
      replace Q := Q.alloc (.cells #[.int .i64 (t1), .int .i64 (t2)] 34)
      replace S := S.alloc (.cells #[.int .i64 (t1), .int .i64 (t2)] 34)
      have T := SW.Box.new v2 (t1) (t2) 34
      replace B := SW.below1 B (SW.below_new v2 (.cells #[.int .i64 (t1), .int .i64 (t2)] 34))
      have ⟨G0, G1, G2, G3⟩ := G
      have ⟨P0, P1, P2, P3⟩ := P
      have ⟨Q0, Q1, Q2, Q3⟩ := Q
      have ⟨S0, S1, S2, S3⟩ := S
      have ⟨T0, T1, T2, T3⟩ := T
      go_wp2
      go_ret
      exact ⟨NW.ret_int E.out, B⟩
  · cases h2 : (okP g n && okP b m)
    · rw [h1] at K1
      rw [h2] at K2
      simp only [SM.sel] at K1 K2
      have E : Hide (3 = nearV g n a l b m) := ⟨by unfold nearV; rw [h1, h2]⟩
      generalize SI.sqL g n a l = s1 at *
      generalize SI.sqH g n a l = s2 at *
      clear h1 h2
      have G := SW.Box.new w (g) (n) 28
      have B := SW.below_new w (.cells #[.int .i64 (g), .int .i64 (n)] 28)
      replace G := G.alloc (.cells #[.int .i64 (a), .int .i64 (l)] 28)
      have P : SW.Box ((w.alloc (.cells #[.int .i64 (g), .int .i64 (n)] 28)).alloc (.cells #[.int .i64 (a), .int .i64 (l)] 28)) (w.heap.size + 1) (a) (l) := by simpa using SW.Box.new (w.alloc (.cells #[.int .i64 (g), .int .i64 (n)] 28)) (a) (l) 28
      replace B := SW.below1 B (SW.below_new (w.alloc (.cells #[.int .i64 (g), .int .i64 (n)] 28)) (.cells #[.int .i64 (a), .int .i64 (l)] 28))
      replace G := G.alloc (.cells #[.int .i64 (b), .int .i64 (m)] 28)
      replace P := P.alloc (.cells #[.int .i64 (b), .int .i64 (m)] 28)
      have Q : SW.Box (((w.alloc (.cells #[.int .i64 (g), .int .i64 (n)] 28)).alloc (.cells #[.int .i64 (a), .int .i64 (l)] 28)).alloc (.cells #[.int .i64 (b), .int .i64 (m)] 28)) (w.heap.size + 1 + 1) (b) (m) := by simpa using SW.Box.new ((w.alloc (.cells #[.int .i64 (g), .int .i64 (n)] 28)).alloc (.cells #[.int .i64 (a), .int .i64 (l)] 28)) (b) (m) 28
      replace B := SW.below1 B (SW.below_new ((w.alloc (.cells #[.int .i64 (g), .int .i64 (n)] 28)).alloc (.cells #[.int .i64 (a), .int .i64 (l)] 28)) (.cells #[.int .i64 (b), .int .i64 (m)] 28))
      go_enter Tryd.func9, Tryd.ntmps9
      have ⟨G0, G1, G2, G3⟩ := G
      have ⟨P0, P1, P2, P3⟩ := P
      have ⟨Q0, Q1, Q2, Q3⟩ := Q
      go_wp2_with fail
      refine (K1 _).mono ?_
      rintro e v1 ⟨rfl, Bx⟩
      clear G0 G1 G2 G3 P0 P1 P2 P3 Q0 Q1 Q2 Q3
      replace G := G.kept Bx
      replace P := P.kept Bx
      replace Q := Q.kept Bx
      replace B := SW.below1 B Bx
      clear Bx
      replace G := G.alloc (.cells #[.int .i64 (s1), .int .i64 (s2)] 34)
      replace P := P.alloc (.cells #[.int .i64 (s1), .int .i64 (s2)] 34)
      replace Q := Q.alloc (.cells #[.int .i64 (s1), .int .i64 (s2)] 34)
      have S := SW.Box.new v1 (s1) (s2) 34
      replace B := SW.below1 B (SW.below_new v1 (.cells #[.int .i64 (s1), .int .i64 (s2)] 34))
      have ⟨G0, G1, G2, G3⟩ := G
      have ⟨P0, P1, P2, P3⟩ := P
      have ⟨Q0, Q1, Q2, Q3⟩ := Q
      have ⟨S0, S1, S2, S3⟩ := S
      go_wp2_with fail
      refine (K2 _).mono ?_
      rintro e v2 ⟨rfl, Bx⟩
      clear G0 G1 G2 G3 P0 P1 P2 P3 Q0 Q1 Q2 Q3 S0 S1 S2 S3
      replace G := G.kept Bx
      replace P := P.kept Bx
      replace Q := Q.kept Bx
      replace S := S.kept Bx
      replace B := SW.below1 B Bx
      clear Bx
      replace G := G.alloc (.cells #[.int .i64 (0), .int .i64 (0)] 34)
      replace P := P.alloc (.cells #[.int .i64 (0), .int .i64 (0)] 34)
      replace Q := Q.alloc (.cells #[.int .i64 (0), .int .i64 (0)] 34)
      replace S := S.alloc (.cells #[.int .i64 (0), .int .i64 (0)] 34)
      have T := SW.Box.new v2 (0) (0) 34
      replace B := SW.below1 B (SW.below_new v2 (.cells #[.int .i64 (0), .int .i64 (0)] 34))
      have ⟨G0, G1, G2, G3⟩ := G
      have ⟨P0, P1, P2, P3⟩ := P
      have ⟨Q0, Q1, Q2, Q3⟩ := Q
      have ⟨S0, S1, S2, S3⟩ := S
      have ⟨T0, T1, T2, T3⟩ := T
      go_wp2
      go_ret
      exact ⟨NW.ret_int E.out, B⟩
    · cases h3 : sameB a l b m
      · rw [h1] at K1
        rw [h2] at K2
        simp only [SM.sel] at K1 K2
        rw [h3] at K3
        have E : Hide (SR.lessV (SI.sqL g n a l) (SI.sqH g n a l) (SI.sqL g n b m) (SI.sqH g n b m) = nearV g n a l b m) := ⟨by unfold nearV; rw [h1, h2, h3]⟩
        have K4 := fun w => SW.sSureLess_any (SI.sqL g n a l) (SI.sqH g n a l) (SI.sqL g n b m) (SI.sqH g n b m) w
        generalize SR.lessV (SI.sqL g n a l) (SI.sqH g n a l) (SI.sqL g n b m) (SI.sqH g n b m) = v at *
        generalize SI.sqL g n a l = s1 at *
        generalize SI.sqH g n a l = s2 at *
        generalize SI.sqL g n b m = t1 at *
        generalize SI.sqH g n b m = t2 at *
        clear h1 h2 h3
        have G := SW.Box.new w (g) (n) 28
        have B := SW.below_new w (.cells #[.int .i64 (g), .int .i64 (n)] 28)
        replace G := G.alloc (.cells #[.int .i64 (a), .int .i64 (l)] 28)
        have P : SW.Box ((w.alloc (.cells #[.int .i64 (g), .int .i64 (n)] 28)).alloc (.cells #[.int .i64 (a), .int .i64 (l)] 28)) (w.heap.size + 1) (a) (l) := by simpa using SW.Box.new (w.alloc (.cells #[.int .i64 (g), .int .i64 (n)] 28)) (a) (l) 28
        replace B := SW.below1 B (SW.below_new (w.alloc (.cells #[.int .i64 (g), .int .i64 (n)] 28)) (.cells #[.int .i64 (a), .int .i64 (l)] 28))
        replace G := G.alloc (.cells #[.int .i64 (b), .int .i64 (m)] 28)
        replace P := P.alloc (.cells #[.int .i64 (b), .int .i64 (m)] 28)
        have Q : SW.Box (((w.alloc (.cells #[.int .i64 (g), .int .i64 (n)] 28)).alloc (.cells #[.int .i64 (a), .int .i64 (l)] 28)).alloc (.cells #[.int .i64 (b), .int .i64 (m)] 28)) (w.heap.size + 1 + 1) (b) (m) := by simpa using SW.Box.new ((w.alloc (.cells #[.int .i64 (g), .int .i64 (n)] 28)).alloc (.cells #[.int .i64 (a), .int .i64 (l)] 28)) (b) (m) 28
        replace B := SW.below1 B (SW.below_new ((w.alloc (.cells #[.int .i64 (g), .int .i64 (n)] 28)).alloc (.cells #[.int .i64 (a), .int .i64 (l)] 28)) (.cells #[.int .i64 (b), .int .i64 (m)] 28))
        go_enter Tryd.func9, Tryd.ntmps9
        have ⟨G0, G1, G2, G3⟩ := G
        have ⟨P0, P1, P2, P3⟩ := P
        have ⟨Q0, Q1, Q2, Q3⟩ := Q
        go_wp2_with fail
        refine (K1 _).mono ?_
        rintro e v1 ⟨rfl, Bx⟩
        clear G0 G1 G2 G3 P0 P1 P2 P3 Q0 Q1 Q2 Q3
        replace G := G.kept Bx
        replace P := P.kept Bx
        replace Q := Q.kept Bx
        replace B := SW.below1 B Bx
        clear Bx
        replace G := G.alloc (.cells #[.int .i64 (s1), .int .i64 (s2)] 34)
        replace P := P.alloc (.cells #[.int .i64 (s1), .int .i64 (s2)] 34)
        replace Q := Q.alloc (.cells #[.int .i64 (s1), .int .i64 (s2)] 34)
        have S := SW.Box.new v1 (s1) (s2) 34
        replace B := SW.below1 B (SW.below_new v1 (.cells #[.int .i64 (s1), .int .i64 (s2)] 34))
        have ⟨G0, G1, G2, G3⟩ := G
        have ⟨P0, P1, P2, P3⟩ := P
        have ⟨Q0, Q1, Q2, Q3⟩ := Q
        have ⟨S0, S1, S2, S3⟩ := S
        go_wp2_with fail
        refine (K2 _).mono ?_
        rintro e v2 ⟨rfl, Bx⟩
        clear G0 G1 G2 G3 P0 P1 P2 P3 Q0 Q1 Q2 Q3 S0 S1 S2 S3
        replace G := G.kept Bx
        replace P := P.kept Bx
        replace Q := Q.kept Bx
        replace S := S.kept Bx
        replace B := SW.below1 B Bx
        clear Bx
        replace G := G.alloc (.cells #[.int .i64 (t1), .int .i64 (t2)] 34)
        replace P := P.alloc (.cells #[.int .i64 (t1), .int .i64 (t2)] 34)
        replace Q := Q.alloc (.cells #[.int .i64 (t1), .int .i64 (t2)] 34)
        replace S := S.alloc (.cells #[.int .i64 (t1), .int .i64 (t2)] 34)
        have T := SW.Box.new v2 (t1) (t2) 34
        replace B := SW.below1 B (SW.below_new v2 (.cells #[.int .i64 (t1), .int .i64 (t2)] 34))
        have ⟨G0, G1, G2, G3⟩ := G
        have ⟨P0, P1, P2, P3⟩ := P
        have ⟨Q0, Q1, Q2, Q3⟩ := Q
        have ⟨S0, S1, S2, S3⟩ := S
        have ⟨T0, T1, T2, T3⟩ := T
        go_wp2_with fail
        refine (K3 _).mono ?_
        rintro e v3 ⟨rfl, Bx⟩
        clear G0 G1 G2 G3 P0 P1 P2 P3 Q0 Q1 Q2 Q3 S0 S1 S2 S3 T0 T1 T2 T3
        replace G := G.kept Bx
        replace P := P.kept Bx
        replace Q := Q.kept Bx
        replace S := S.kept Bx
        replace T := T.kept Bx
        replace B := SW.below1 B Bx
        clear Bx
        have ⟨G0, G1, G2, G3⟩ := G
        have ⟨P0, P1, P2, P3⟩ := P
        have ⟨Q0, Q1, Q2, Q3⟩ := Q
        have ⟨S0, S1, S2, S3⟩ := S
        have ⟨T0, T1, T2, T3⟩ := T
        go_wp2_with fail
        refine (K4 _).mono ?_
        rintro e v4 ⟨rfl, Bx⟩
        clear G0 G1 G2 G3 P0 P1 P2 P3 Q0 Q1 Q2 Q3 S0 S1 S2 S3 T0 T1 T2 T3
        replace G := G.kept Bx
        replace P := P.kept Bx
        replace Q := Q.kept Bx
        replace S := S.kept Bx
        replace T := T.kept Bx
        replace B := SW.below1 B Bx
        clear Bx
        have ⟨G0, G1, G2, G3⟩ := G
        have ⟨P0, P1, P2, P3⟩ := P
        have ⟨Q0, Q1, Q2, Q3⟩ := Q
        have ⟨S0, S1, S2, S3⟩ := S
        have ⟨T0, T1, T2, T3⟩ := T
        go_wp2
        go_ret
        exact ⟨NW.ret_int E.out, B⟩
      · rw [h1] at K1
        rw [h2] at K2
        simp only [SM.sel] at K1 K2
        rw [h3] at K3
        have E : Hide (2 = nearV g n a l b m) := ⟨by unfold nearV; rw [h1, h2, h3]⟩
        generalize SI.sqL g n a l = s1 at *
        generalize SI.sqH g n a l = s2 at *
        generalize SI.sqL g n b m = t1 at *
        generalize SI.sqH g n b m = t2 at *
        clear h1 h2 h3
        have G := SW.Box.new w (g) (n) 28
        have B := SW.below_new w (.cells #[.int .i64 (g), .int .i64 (n)] 28)
        replace G := G.alloc (.cells #[.int .i64 (a), .int .i64 (l)] 28)
        have P : SW.Box ((w.alloc (.cells #[.int .i64 (g), .int .i64 (n)] 28)).alloc (.cells #[.int .i64 (a), .int .i64 (l)] 28)) (w.heap.size + 1) (a) (l) := by simpa using SW.Box.new (w.alloc (.cells #[.int .i64 (g), .int .i64 (n)] 28)) (a) (l) 28
        replace B := SW.below1 B (SW.below_new (w.alloc (.cells #[.int .i64 (g), .int .i64 (n)] 28)) (.cells #[.int .i64 (a), .int .i64 (l)] 28))
        replace G := G.alloc (.cells #[.int .i64 (b), .int .i64 (m)] 28)
        replace P := P.alloc (.cells #[.int .i64 (b), .int .i64 (m)] 28)
        have Q : SW.Box (((w.alloc (.cells #[.int .i64 (g), .int .i64 (n)] 28)).alloc (.cells #[.int .i64 (a), .int .i64 (l)] 28)).alloc (.cells #[.int .i64 (b), .int .i64 (m)] 28)) (w.heap.size + 1 + 1) (b) (m) := by simpa using SW.Box.new ((w.alloc (.cells #[.int .i64 (g), .int .i64 (n)] 28)).alloc (.cells #[.int .i64 (a), .int .i64 (l)] 28)) (b) (m) 28
        replace B := SW.below1 B (SW.below_new ((w.alloc (.cells #[.int .i64 (g), .int .i64 (n)] 28)).alloc (.cells #[.int .i64 (a), .int .i64 (l)] 28)) (.cells #[.int .i64 (b), .int .i64 (m)] 28))
        go_enter Tryd.func9, Tryd.ntmps9
        have ⟨G0, G1, G2, G3⟩ := G
        have ⟨P0, P1, P2, P3⟩ := P
        have ⟨Q0, Q1, Q2, Q3⟩ := Q
        go_wp2_with fail
        refine (K1 _).mono ?_
        rintro e v1 ⟨rfl, Bx⟩
        clear G0 G1 G2 G3 P0 P1 P2 P3 Q0 Q1 Q2 Q3
        replace G := G.kept Bx
        replace P := P.kept Bx
        replace Q := Q.kept Bx
        replace B := SW.below1 B Bx
        clear Bx
        replace G := G.alloc (.cells #[.int .i64 (s1), .int .i64 (s2)] 34)
        replace P := P.alloc (.cells #[.int .i64 (s1), .int .i64 (s2)] 34)
        replace Q := Q.alloc (.cells #[.int .i64 (s1), .int .i64 (s2)] 34)
        have S := SW.Box.new v1 (s1) (s2) 34
        replace B := SW.below1 B (SW.below_new v1 (.cells #[.int .i64 (s1), .int .i64 (s2)] 34))
        have ⟨G0, G1, G2, G3⟩ := G
        have ⟨P0, P1, P2, P3⟩ := P
        have ⟨Q0, Q1, Q2, Q3⟩ := Q
        have ⟨S0, S1, S2, S3⟩ := S
        go_wp2_with fail
        refine (K2 _).mono ?_
        rintro e v2 ⟨rfl, Bx⟩
        clear G0 G1 G2 G3 P0 P1 P2 P3 Q0 Q1 Q2 Q3 S0 S1 S2 S3
        replace G := G.kept Bx
        replace P := P.kept Bx
        replace Q := Q.kept Bx
        replace S := S.kept Bx
        replace B := SW.below1 B Bx
        clear Bx
        replace G := G.alloc (.cells #[.int .i64 (t1), .int .i64 (t2)] 34)
        replace P := P.alloc (.cells #[.int .i64 (t1), .int .i64 (t2)] 34)
        replace Q := Q.alloc (.cells #[.int .i64 (t1), .int .i64 (t2)] 34)
        replace S := S.alloc (.cells #[.int .i64 (t1), .int .i64 (t2)] 34)
        have T := SW.Box.new v2 (t1) (t2) 34
        replace B := SW.below1 B (SW.below_new v2 (.cells #[.int .i64 (t1), .int .i64 (t2)] 34))
        have ⟨G0, G1, G2, G3⟩ := G
        have ⟨P0, P1, P2, P3⟩ := P
        have ⟨Q0, Q1, Q2, Q3⟩ := Q
        have ⟨S0, S1, S2, S3⟩ := S
        have ⟨T0, T1, T2, T3⟩ := T
        go_wp2_with fail
        refine (K3 _).mono ?_
        rintro e v3 ⟨rfl, Bx⟩
        clear G0 G1 G2 G3 P0 P1 P2 P3 Q0 Q1 Q2 Q3 S0 S1 S2 S3 T0 T1 T2 T3
        replace G := G.kept Bx
        replace P := P.kept Bx
        replace Q := Q.kept Bx
        replace S := S.kept Bx
        replace T := T.kept Bx
        replace B := SW.below1 B Bx
        clear Bx
        have ⟨G0, G1, G2, G3⟩ := G
        have ⟨P0, P1, P2, P3⟩ := P
        have ⟨Q0, Q1, Q2, Q3⟩ := Q
        have ⟨S0, S1, S2, S3⟩ := S
        have ⟨T0, T1, T2, T3⟩ := T
        go_wp2
        go_ret
        exact ⟨NW.ret_int E.out, B⟩
end SK
end Go.Proofs.YtfdkpcejjcifgauDoor
