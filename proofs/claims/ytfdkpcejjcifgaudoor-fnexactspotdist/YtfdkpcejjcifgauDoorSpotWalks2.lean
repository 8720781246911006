/-
  What the specification's functions on places return: SpotSquare, SpotDist.
-/
import Derived.Test.YtfdkpcejjcifgauDoorSpotWalks
import Derived.Test.YtfdkpcejjcifgauDoorSpotBook
import Derived.Test.YtfdkpcejjcifgauDoorBackWalks2
import Derived.Test.YtfdkpcejjcifgauDoorSpanWalks3
import Derived.Test.YtfdkpcejjcifgauDoorSpanWalks4
import Derived.Test.YtfdkpcejjcifgauDoorLoose2Kit
namespace Go.Proofs.YtfdkpcejjcifgauDoor
open Go.RowKit Go.Sort
set_option linter.unusedVariables false
namespace SK
theorem mulB_nn {a b c d : Int} (h0 : 0 ≤ a) (h : a ≤ b) (h1 : b ≤ 1000000000) (g0 : 0 ≤ c) (g : c ≤ d) (g1 : d ≤ 1000000000) : SM.mulB a b c d = true := by
  have m := SI.mul_bdI h0 h h1 g0 g g1
  unfold SM.mulB
  rw [SM.both_mk (SM.okS_mk (by omega)) (SM.okS_mk (by omega)), SM.okS_mk (by omega)]
  rfl
theorem sClip_any (l h : Int) (w : World) : Calls Tryd.prog 27 #[spV l h] w fun e w' => e = .returned (spV (SI.clp l) (SI.clp h)) ∧ Below w.heap.size w w' := by
  go_enter Tryd.func27, Tryd.ntmps27
  go_wp2
  refine bodyPost_ret (v := .agg #[.int .i64 (SI.clp l), .int .i64 (SI.clp h)]) (by simp [results, Tryd.results27, go_sem, SI.clp]) rfl ⟨rfl, ?_⟩
  exact below_new2 _ _ _
set_option maxHeartbeats 4000000 in
theorem sSpotSquare_any (a l b m : Int) (w : World) : Calls Tryd.prog 11 #[spV a l, spV b m] w fun e w' => e = .returned (.tuple #[spV (SM.sel (okP a l && okP b m) (SI.sqL a l b m)) (SM.sel (okP a l && okP b m) (SI.sqH a l b m)), .bool (okP a l && okP b m)]) ∧ Below w.heap.size w w' := by
  have K1 := fun w => sSpotOk_any a l w
  have K2 := fun w => sSpotOk_any b m w
  cases h1 : okP a l
  · rw [h1] at K1
    simp only [Bool.false_and, SM.sel]
    have P := SW.Box.new w (a) (l) 28
    have B := SW.below_new w (.cells #[.int .i64 (a), .int .i64 (l)] 28)
    replace P := P.alloc (.cells #[.int .i64 (b), .int .i64 (m)] 28)
    have Q : SW.Box ((w.alloc (.cells #[.int .i64 (a), .int .i64 (l)] 28)).alloc (.cells #[.int .i64 (b), .int .i64 (m)] 28)) (w.heap.size + 1) (b) (m) := by simpa using SW.Box.new (w.alloc (.cells #[.int .i64 (a), .int .i64 (l)] 28)) (b) (m) 28
    replace B := SW.below1 B (SW.below_new (w.alloc (.cells #[.int .i64 (a), .int .i64 (l)] 28)) (.cells #[.int .i64 (b), .int .i64 (m)] 28))
    replace P := P.alloc (.cells #[.int .i64 (0), .int .i64 (0)] 34)
    replace Q := Q.alloc (.cells #[.int .i64 (0), .int .i64 (0)] 34)
    have R : SW.Box (((w.alloc (.cells #[.int .i64 (a), .int .i64 (l)] 28)).alloc (.cells #[.int .i64 (b), .int .i64 (m)] 28)).alloc (.cells #[.int .i64 (0), .int .i64 (0)] 34)) (w.heap.size + 1 + 1) (0) (0) := by simpa using SW.Box.new ((w.alloc (.cells #[.int .i64 (a), .int .i64 (l)] 28)).alloc (.cells #[.int .i64 (b), .int .i64 (m)] 28)) (0) (0) 34
    replace B := SW.below1 B (SW.below_new ((w.alloc (.cells #[.int .i64 (a), .int .i64 (l)] 28)).alloc (.cells #[.int .i64 (b), .int .i64 (m)] 28)) (.cells #[.int .i64 (0), .int .i64 (0)] 34))
    go_enter Tryd.func11, Tryd.ntmps11
    have ⟨P0, P1, P2, P3⟩ := P
    have ⟨Q0, Q1, Q2, Q3⟩ := Q
    have ⟨R0, R1, R2, R3⟩ := R
    go_wp2_with fail
    refine (K1 _).mono ?_
    rintro e v1 ⟨rfl, Bx⟩
    clear P0 P1 P2 P3 Q0 Q1 Q2 Q3 R0 R1 R2 R3
    replace P := P.kept Bx
    replace Q := Q.kept Bx
    replace R := R.kept Bx
    replace B := SW.below1 B Bx
    clear Bx
    have ⟨P0, P1, P2, P3⟩ := P
    have ⟨Q0, Q1, Q2, Q3⟩ := Q
    have ⟨R0, R1, R2, R3⟩ := R
    go_wp2
    refine bodyPost_ret (v := .tuple #[.agg #[.int .i64 0, .int .i64 0], .bool false]) (by simp [results, Tryd.results11, go_sem, *]) rfl ⟨rfl, ?_⟩
    exact SW.below_set2 B (by omega) _ _
  · rw [h1] at K1
    cases h2 : okP b m
    · rw [h2] at K2
      simp only [Bool.true_and, SM.sel]
      have P := SW.Box.new w (a) (l) 28
      have B := SW.below_new w (.cells #[.int .i64 (a), .int .i64 (l)] 28)
      replace P := P.alloc (.cells #[.int .i64 (b), .int .i64 (m)] 28)
      have Q : SW.Box ((w.alloc (.cells #[.int .i64 (a), .int .i64 (l)] 28)).alloc (.cells #[.int .i64 (b), .int .i64 (m)] 28)) (w.heap.size + 1) (b) (m) := by simpa using SW.Box.new (w.alloc (.cells #[.int .i64 (a), .int .i64 (l)] 28)) (b) (m) 28
      replace B := SW.below1 B (SW.below_new (w.alloc (.cells #[.int .i64 (a), .int .i64 (l)] 28)) (.cells #[.int .i64 (b), .int .i64 (m)] 28))
      replace P := P.alloc (.cells #[.int .i64 (0), .int .i64 (0)] 34)
      replace Q := Q.alloc (.cells #[.int .i64 (0), .int .i64 (0)] 34)
      have R : SW.Box (((w.alloc (.cells #[.int .i64 (a), .int .i64 (l)] 28)).alloc (.cells #[.int .i64 (b), .int .i64 (m)] 28)).alloc (.cells #[.int .i64 (0), .int .i64 (0)] 34)) (w.heap.size + 1 + 1) (0) (0) := by simpa using SW.Box.new ((w.alloc (.cells #[.int .i64 (a), .int .i64 (l)] 28)).alloc (.cells #[.int .i64 (b), .int .i64 (m)] 28)) (0) (0) 34
      replace B := SW.below1 B (SW.below_new ((w.alloc (.cells #[.int .i64 (a), .int .i64 (l)] 28)).alloc (.cells #[.int .i64 (b), .int .i64 (m)] 28)) (.cells #[.int .i64 (0), .int .i64 (0)] 34))
      go_enter Tryd.func11, Tryd.ntmps11
      have ⟨P0, P1, P2, P3⟩ := P
      have ⟨Q0, Q1, Q2, Q3⟩ := Q
      have ⟨R0, R1, R2, R3⟩ := R
      go_wp2_with fail
      refine (K1 _).mono ?_
      rintro e v1 ⟨rfl, Bx⟩
      clear P0 P1 P2 P3 Q0 Q1 Q2 Q3 R0 R1 R2 R3
      replace P := P.kept Bx
      replace Q := Q.kept Bx
      replace R := R.kept Bx
      replace B := SW.below1 B Bx
      clear Bx
      have ⟨P0, P1, P2, P3⟩ := P
      have ⟨Q0, Q1, Q2, Q3⟩ := Q
      have ⟨R0, R1, R2, R3⟩ := R
      go_wp2_with fail
      refine (K2 _).mono ?_
      rintro e v2 ⟨rfl, Bx⟩
      clear P0 P1 P2 P3 Q0 Q1 Q2 Q3 R0 R1 R2 R3
      replace P := P.kept Bx
      replace Q := Q.kept Bx
      replace R := R.kept Bx
      replace B := SW.below1 B Bx
      clear Bx
      have ⟨P0, P1, P2, P3⟩ := P
      have ⟨Q0, Q1, Q2, Q3⟩ := Q
      have ⟨R0, R1, R2, R3⟩ := R
      go_wp2
      refine bodyPost_ret (v := .tuple #[.agg #[.int .i64 0, .int .i64 0], .bool false]) (by simp [results, Tryd.results11, go_sem, *]) rfl ⟨rfl, ?_⟩
      exact SW.below_set2 B (by omega) _ _
    · rw [h2] at K2
      simp only [Bool.true_and, SM.sel]
      obtain ⟨⟨pa0, pa1⟩, pl0, pl1⟩ := okP_of h1
      obtain ⟨⟨qa0, qa1⟩, ql0, ql1⟩ := okP_of h2
      clear h1 h2
      have S1 : ∀ w, Calls Tryd.prog 25 #[.int .i64 (b - a)] w fun e w' => e = .returned (spV (SI.siL (b - a)) (SI.siH (b - a))) ∧ Below w.heap.size w w' := fun w => l12Sine_any (b - a) w (by omega) (by omega)
      have S2 : ∀ w, Calls Tryd.prog 25 #[.int .i64 (m - l)] w fun e w' => e = .returned (spV (SI.siL (m - l)) (SI.siH (m - l))) ∧ Below w.heap.size w w' := fun w => l12Sine_any (m - l) w (by omega) (by omega)
      have S3 : ∀ w, Calls Tryd.prog 25 #[.int .i64 (2 * a + 64800000)] w fun e w' => e = .returned (spV (SI.siL (2 * a + 64800000)) (SI.siH (2 * a + 64800000))) ∧ Below w.heap.size w w' := fun w => l12Sine_any (2 * a + 64800000) w (by omega) (by omega)
      have S4 : ∀ w, Calls Tryd.prog 25 #[.int .i64 (2 * b + 64800000)] w fun e w' => e = .returned (spV (SI.siL (2 * b + 64800000)) (SI.siH (2 * b + 64800000))) ∧ Below w.heap.size w w' := fun w => l12Sine_any (2 * b + 64800000) w (by omega) (by omega)
      have M1 : ∀ w, Calls Tryd.prog 26 #[spV (SI.siL (b - a)) (SI.siH (b - a)), spV (SI.siL (b - a)) (SI.siH (b - a))] w fun e w' => e = .returned (.tuple #[spV (SM.mulLo (SI.siL (b - a)) (SI.siH (b - a)) (SI.siL (b - a)) (SI.siH (b - a))) (SM.mulHi (SI.siL (b - a)) (SI.siH (b - a)) (SI.siL (b - a)) (SI.siH (b - a))), .bool true]) ∧ Below w.heap.size w w' := fun w => by have := SW.sSpanMul_any (SI.siL (b - a)) (SI.siH (b - a)) (SI.siL (b - a)) (SI.siH (b - a)) w; rw [SI.okMul (b - a) (b - a)] at this; exact this
      have M2 : ∀ w, Calls Tryd.prog 26 #[spV (SI.siL (m - l)) (SI.siH (m - l)), spV (SI.siL (m - l)) (SI.siH (m - l))] w fun e w' => e = .returned (.tuple #[spV (SM.mulLo (SI.siL (m - l)) (SI.siH (m - l)) (SI.siL (m - l)) (SI.siH (m - l))) (SM.mulHi (SI.siL (m - l)) (SI.siH (m - l)) (SI.siL (m - l)) (SI.siH (m - l))), .bool true]) ∧ Below w.heap.size w w' := fun w => by have := SW.sSpanMul_any (SI.siL (m - l)) (SI.siH (m - l)) (SI.siL (m - l)) (SI.siH (m - l)) w; rw [SI.okMul (m - l) (m - l)] at this; exact this
      have D1 : ∀ w, Calls Tryd.prog 27 #[spV (SI.siL (2 * a + 64800000)) (SI.siH (2 * a + 64800000))] w fun e w' => e = .returned (spV (SI.kL a) (SI.kH a)) ∧ Below w.heap.size w w' := fun w => sClip_any (SI.siL (2 * a + 64800000)) (SI.siH (2 * a + 64800000)) w
      have D2 : ∀ w, Calls Tryd.prog 27 #[spV (SI.siL (2 * b + 64800000)) (SI.siH (2 * b + 64800000))] w fun e w' => e = .returned (spV (SI.kL b) (SI.kH b)) ∧ Below w.heap.size w w' := fun w => sClip_any (SI.siL (2 * b + 64800000)) (SI.siH (2 * b + 64800000)) w
      have M3 : ∀ w, Calls Tryd.prog 26 #[spV (SI.kL a) (SI.kH a), spV (SI.kL b) (SI.kH b)] w fun e w' => e = .returned (.tuple #[spV (SM.mulLo (SI.kL a) (SI.kH a) (SI.kL b) (SI.kH b)) (SM.mulHi (SI.kL a) (SI.kH a) (SI.kL b) (SI.kH b)), .bool true]) ∧ Below w.heap.size w w' := fun w => by have := SW.sSpanMul_any (SI.kL a) (SI.kH a) (SI.kL b) (SI.kH b) w; rw [show SM.mulB (SI.kL a) (SI.kH a) (SI.kL b) (SI.kH b) = true from mulB_nn (SI.clp_bd _).1 (SI.k_le a) (SI.clp_bd _).2 (SI.clp_bd _).1 (SI.k_le b) (SI.clp_bd _).2] at this; exact this
      have D3 : ∀ w, Calls Tryd.prog 27 #[spV (SM.mulLo (SI.kL a) (SI.kH a) (SI.kL b) (SI.kH b)) (SM.mulHi (SI.kL a) (SI.kH a) (SI.kL b) (SI.kH b))] w fun e w' => e = .returned (spV (SI.bL a b) (SI.bH a b)) ∧ Below w.heap.size w w' := fun w => sClip_any (SM.mulLo (SI.kL a) (SI.kH a) (SI.kL b) (SI.kH b)) (SM.mulHi (SI.kL a) (SI.kH a) (SI.kL b) (SI.kH b)) w
      have D4 : ∀ w, Calls Tryd.prog 27 #[spV (SM.mulLo (SI.siL (m - l)) (SI.siH (m - l)) (SI.siL (m - l)) (SI.siH (m - l))) (SM.mulHi (SI.siL (m - l)) (SI.siH (m - l)) (SI.siL (m - l)) (SI.siH (m - l)))] w fun e w' => e = .returned (spV (SI.oL (m - l)) (SI.oH (m - l))) ∧ Below w.heap.size w w' := fun w => sClip_any (SM.mulLo (SI.siL (m - l)) (SI.siH (m - l)) (SI.siL (m - l)) (SI.siH (m - l))) (SM.mulHi (SI.siL (m - l)) (SI.siH (m - l)) (SI.siL (m - l)) (SI.siH (m - l))) w
      have M4 : ∀ w, Calls Tryd.prog 26 #[spV (SI.bL a b) (SI.bH a b), spV (SI.oL (m - l)) (SI.oH (m - l))] w fun e w' => e = .returned (.tuple #[spV (SI.tL a b (m - l)) (SI.tH a b (m - l)), .bool true]) ∧ Below w.heap.size w w' := fun w => by have := SW.sSpanMul_any (SI.bL a b) (SI.bH a b) (SI.oL (m - l)) (SI.oH (m - l)) w; rw [show SM.mulB (SI.bL a b) (SI.bH a b) (SI.oL (m - l)) (SI.oH (m - l)) = true from mulB_nn (SI.clp_bd _).1 (SI.b_le a b) (SI.clp_bd _).2 (SI.clp_bd _).1 (SI.o_le (m - l)) (SI.clp_bd _).2] at this; exact this
      have D5 : ∀ w, Calls Tryd.prog 27 #[spV (SM.mulLo (SI.siL (b - a)) (SI.siH (b - a)) (SI.siL (b - a)) (SI.siH (b - a))) (SM.mulHi (SI.siL (b - a)) (SI.siH (b - a)) (SI.siL (b - a)) (SI.siH (b - a)))] w fun e w' => e = .returned (spV (SI.oL (b - a)) (SI.oH (b - a))) ∧ Below w.heap.size w w' := fun w => sClip_any (SM.mulLo (SI.siL (b - a)) (SI.siH (b - a)) (SI.siL (b - a)) (SI.siH (b - a))) (SM.mulHi (SI.siL (b - a)) (SI.siH (b - a)) (SI.siL (b - a)) (SI.siH (b - a))) w
      have D6 : ∀ w, Calls Tryd.prog 27 #[spV (SI.oL (b - a) + SI.tL a b (m - l)) (SI.oH (b - a) + SI.tH a b (m - l))] w fun e w' => e = .returned (spV (SI.sqL a l b m) (SI.sqH a l b m)) ∧ Below w.heap.size w w' := fun w => sClip_any (SI.oL (b - a) + SI.tL a b (m - l)) (SI.oH (b - a) + SI.tH a b (m - l)) w
      have ob := SI.o_bd (b - a)
      have tb := SI.t_bd a b (m - l)
      generalize SI.sqL a l b m = sl at *
      generalize SI.sqH a l b m = sh at *
      generalize SI.tL a b (m - l) = tl at *
      generalize SI.tH a b (m - l) = th at *
      generalize SI.oL (b - a) = ol at *
      generalize SI.oH (b - a) = oh at *
      generalize SI.oL (m - l) = al at *
      generalize SI.oH (m - l) = ah at *
      generalize SI.bL a b = bl at *
      generalize SI.bH a b = bh at *
      generalize SM.mulLo (SI.kL a) (SI.kH a) (SI.kL b) (SI.kH b) = kl at *
      generalize SM.mulHi (SI.kL a) (SI.kH a) (SI.kL b) (SI.kH b) = kh at *
      generalize SM.mulLo (SI.siL (b - a)) (SI.siH (b - a)) (SI.siL (b - a)) (SI.siH (b - a)) = ml at *
      generalize SM.mulHi (SI.siL (b - a)) (SI.siH (b - a)) (SI.siL (b - a)) (SI.siH (b - a)) = mh at *
      generalize SM.mulLo (SI.siL (m - l)) (SI.siH (m - l)) (SI.siL (m - l)) (SI.siH (m - l)) = nl at *
      generalize SM.mulHi (SI.siL (m - l)) (SI.siH (m - l)) (SI.siL (m - l)) (SI.siH (m - l)) = nh at *
      generalize SI.kL a = xl at *
      generalize SI.kH a = xh at *
      generalize SI.kL b = yl at *
      generalize SI.kH b = yh at *
      generalize SI.siL (b - a) = ul at *
      generalize SI.siH (b - a) = uh at *
      generalize SI.siL (m - l) = fl at *
      generalize SI.siH (m - l) = fh at *
      generalize SI.siL (2 * a + 64800000) = cl at *
      generalize SI.siH (2 * a + 64800000) = ch at *
      generalize SI.siL (2 * b + 64800000) = dl at *
      generalize SI.siH (2 * b + 64800000) = dh at *
      have P := SW.Box.new w (a) (l) 28
      have B := SW.below_new w (.cells #[.int .i64 (a), .int .i64 (l)] 28)
      replace P := P.alloc (.cells #[.int .i64 (b), .int .i64 (m)] 28)
      have Q : SW.Box ((w.alloc (.cells #[.int .i64 (a), .int .i64 (l)] 28)).alloc (.cells #[.int .i64 (b), .int .i64 (m)] 28)) (w.heap.size + 1) (b) (m) := by simpa using SW.Box.new (w.alloc (.cells #[.int .i64 (a), .int .i64 (l)] 28)) (b) (m) 28
      replace B := SW.below1 B (SW.below_new (w.alloc (.cells #[.int .i64 (a), .int .i64 (l)] 28)) (.cells #[.int .i64 (b), .int .i64 (m)] 28))
      replace P := P.alloc (.cells #[.int .i64 (0), .int .i64 (0)] 34)
      replace Q := Q.alloc (.cells #[.int .i64 (0), .int .i64 (0)] 34)
      have R : SW.Box (((w.alloc (.cells #[.int .i64 (a), .int .i64 (l)] 28)).alloc (.cells #[.int .i64 (b), .int .i64 (m)] 28)).alloc (.cells #[.int .i64 (0), .int .i64 (0)] 34)) (w.heap.size + 1 + 1) (0) (0) := by simpa using SW.Box.new ((w.alloc (.cells #[.int .i64 (a), .int .i64 (l)] 28)).alloc (.cells #[.int .i64 (b), .int .i64 (m)] 28)) (0) (0) 34
      replace B := SW.below1 B (SW.below_new ((w.alloc (.cells #[.int .i64 (a), .int .i64 (l)] 28)).alloc (.cells #[.int .i64 (b), .int .i64 (m)] 28)) (.cells #[.int .i64 (0), .int .i64 (0)] 34))
      go_enter Tryd.func11, Tryd.ntmps11
      have ⟨P0, P1, P2, P3⟩ := P
      have ⟨Q0, Q1, Q2, Q3⟩ := Q
      have ⟨R0, R1, R2, R3⟩ := R
      go_wp2_with fail
      refine (K1 _).mono ?_
      rintro e v1 ⟨rfl, Bx⟩
      clear P0 P1 P2 P3 Q0 Q1 Q2 Q3 R0 R1 R2 R3
      replace P := P.kept Bx
      replace Q := Q.kept Bx
      replace R := R.kept Bx
      replace B := SW.below1 B Bx
      clear Bx
      have ⟨P0, P1, P2, P3⟩ := P
      have ⟨Q0, Q1, Q2, Q3⟩ := Q
      have ⟨R0, R1, R2, R3⟩ := R
      go_wp2_with fail
      refine (K2 _).mono ?_
      rintro e v2 ⟨rfl, Bx⟩
      clear P0 P1 P2 P3 Q0 Q1 Q2 Q3 R0 R1 R2 R3
      replace P := P.kept Bx
      replace Q := Q.kept Bx
      replace R := R.kept Bx
      replace B := SW.below1 B Bx
      clear Bx
      clear K1 K2
      have ⟨P0, P1, P2, P3⟩ := P
      have ⟨Q0, Q1, Q2, Q3⟩ := Q
      have ⟨R0, R1, R2, R3⟩ := R
      go_wp2_with fail
      refine (S1 _).mono ?_
      rintro e v3 ⟨rfl, Bx⟩
      clear P0 P1 P2 P3 Q0 Q1 Q2 Q3 R0 R1 R2 R3
      replace P := P.kept Bx
      replace Q := Q.kept Bx
      replace R := R.kept Bx
      replace B := SW.below1 B Bx
      clear Bx
      replace P := P.alloc (.cells #[.int .i64 (ul), .int .i64 (uh)] 34)
      replace Q := Q.alloc (.cells #[.int .i64 (ul), .int .i64 (uh)] 34)
      replace R := R.alloc (.cells #[.int .i64 (ul), .int .i64 (uh)] 34)
      have U := SW.Box.new v3 (ul) (uh) 34
      replace B := SW.below1 B (SW.below_new v3 (.cells #[.int .i64 (ul), .int .i64 (uh)] 34))
      have ⟨P0, P1, P2, P3⟩ := P
      have ⟨Q0, Q1, Q2, Q3⟩ := Q
      have ⟨R0, R1, R2, R3⟩ := R
      have ⟨U0, U1, U2, U3⟩ := U
      go_wp2_with fail
      refine (S2 _).mono ?_
      rintro e v4 ⟨rfl, Bx⟩
      clear P0 P1 P2 P3 Q0 Q1 Q2 Q3 R0 R1 R2 R3 U0 U1 U2 U3
      replace P := P.kept Bx
      replace Q := Q.kept Bx
      replace R := R.kept Bx
      replace U := U.kept Bx
      replace B := SW.below1 B Bx
      clear Bx
      replace P := P.alloc (.cells #[.int .i64 (fl), .int .i64 (fh)] 34)
      replace Q := Q.alloc (.cells #[.int .i64 (fl), .int .i64 (fh)] 34)
      replace R := R.alloc (.cells #[.int .i64 (fl), .int .i64 (fh)] 34)
      replace U := U.alloc (.cells #[.int .i64 (fl), .int .i64 (fh)] 34)
      have A := SW.Box.new v4 (fl) (fh) 34
      replace B := SW.below1 B (SW.below_new v4 (.cells #[.int .i64 (fl), .int .i64 (fh)] 34))
      have ⟨P0, P1, P2, P3⟩ := P
      have ⟨Q0, Q1, Q2, Q3⟩ := Q
      have ⟨R0, R1, R2, R3⟩ := R
      have ⟨U0, U1, U2, U3⟩ := U
      have ⟨A0, A1, A2, A3⟩ := A
      go_wp2_with fail
      refine (S3 _).mono ?_
      rintro e v5 ⟨rfl, Bx⟩
      clear P0 P1 P2 P3 Q0 Q1 Q2 Q3 R0 R1 R2 R3 U0 U1 U2 U3 A0 A1 A2 A3
      replace P := P.kept Bx
      replace Q := Q.kept Bx
      replace R := R.kept Bx
      replace U := U.kept Bx
      replace A := A.kept Bx
      replace B := SW.below1 B Bx
      clear Bx
      replace P := P.alloc (.cells #[.int .i64 (cl), .int .i64 (ch)] 34)
      replace Q := Q.alloc (.cells #[.int .i64 (cl), .int .i64 (ch)] 34)
      replace R := R.alloc (.cells #[.int .i64 (cl), .int .i64 (ch)] 34)
      replace U := U.alloc (.cells #[.int .i64 (cl), .int .i64 (ch)] 34)
      replace A := A.alloc (.cells #[.int .i64 (cl), .int .i64 (ch)] 34)
      have C := SW.Box.new v5 (cl) (ch) 34
      replace B := SW.below1 B (SW.below_new v5 (.cells #[.int .i64 (cl), .int .i64 (ch)] 34))
      have ⟨P0, P1, P2, P3⟩ := P
      have ⟨Q0, Q1, Q2, Q3⟩ := Q
      have ⟨R0, R1, R2, R3⟩ := R
      have ⟨U0, U1, U2, U3⟩ := U
      have ⟨A0, A1, A2, A3⟩ := A
      have ⟨C0, C1, C2, C3⟩ := C
      go_wp2_with fail
      refine (S4 _).mono ?_
      rintro e v6 ⟨rfl, Bx⟩
      clear P0 P1 P2 P3 Q0 Q1 Q2 Q3 R0 R1 R2 R3 U0 U1 U2 U3 A0 A1 A2 A3 C0 C1 C2 C3
      replace P := P.kept Bx
      replace Q := Q.kept Bx
      replace R := R.kept Bx
      replace U := U.kept Bx
      replace A := A.kept Bx
      replace C := C.kept Bx
      replace B := SW.below1 B Bx
      clear Bx
      replace P := P.alloc (.cells #[.int .i64 (dl), .int .i64 (dh)] 34)
      replace Q := Q.alloc (.cells #[.int .i64 (dl), .int .i64 (dh)] 34)
      replace R := R.alloc (.cells #[.int .i64 (dl), .int .i64 (dh)] 34)
      replace U := U.alloc (.cells #[.int .i64 (dl), .int .i64 (dh)] 34)
      replace A := A.alloc (.cells #[.int .i64 (dl), .int .i64 (dh)] 34)
      replace C := C.alloc (.cells #[.int .i64 (dl), .int .i64 (dh)] 34)
      have D := SW.Box.new v6 (dl) (dh) 34
      replace B := SW.below1 B (SW.below_new v6 (.cells #[.int .i64 (dl), .int .i64 (dh)] 34))
      clear S1 S2 S3 S4
      have ⟨P0, P1, P2, P3⟩ := P
      have ⟨Q0, Q1, Q2, Q3⟩ := Q
      have ⟨R0, R1, R2, R3⟩ := R
      have ⟨U0, U1, U2, U3⟩ := U
      have ⟨A0, A1, A2, A3⟩ := A
      have ⟨C0, C1, C2, C3⟩ := C
      have ⟨D0, D1, D2, D3⟩ := D
      go_wp2_with fail
      refine (M1 _).mono ?_
      rintro e v7 ⟨rfl, Bx⟩
      clear P0 P1 P2 P3 Q0 Q1 Q2 Q3 R0 R1 R2 R3 U0 U1 U2 U3 A0 A1 A2 A3 C0 C1 C2 C3 D0 D1 D2 D3
      replace P := P.kept Bx
      replace Q := Q.kept Bx
      replace R := R.kept Bx
      replace U := U.kept Bx
      replace A := A.kept Bx
      replace C := C.kept Bx
      replace D := D.kept Bx
      replace B := SW.below1 B Bx
      clear Bx
      have hR := R.lt
      replace P := P.alloc (.cells #[.int .i64 (ml), .int .i64 (mh)] 34)
      replace Q := Q.alloc (.cells #[.int .i64 (ml), .int .i64 (mh)] 34)
      replace R := R.alloc (.cells #[.int .i64 (ml), .int .i64 (mh)] 34)
      replace U := U.alloc (.cells #[.int .i64 (ml), .int .i64 (mh)] 34)
      replace A := A.alloc (.cells #[.int .i64 (ml), .int .i64 (mh)] 34)
      replace C := C.alloc (.cells #[.int .i64 (ml), .int .i64 (mh)] 34)
      replace D := D.alloc (.cells #[.int .i64 (ml), .int .i64 (mh)] 34)
      have O := SW.Box.new v7 (ml) (mh) 34
      replace B := SW.below1 B (SW.below_new v7 (.cells #[.int .i64 (ml), .int .i64 (mh)] 34))
      have ⟨P0, P1, P2, P3⟩ := P
      have ⟨Q0, Q1, Q2, Q3⟩ := Q
      have ⟨R0, R1, R2, R3⟩ := R
      have ⟨U0, U1, U2, U3⟩ := U
      have ⟨A0, A1, A2, A3⟩ := A
      have ⟨C0, C1, C2, C3⟩ := C
      have ⟨D0, D1, D2, D3⟩ := D
      have ⟨O0, O1, O2, O3⟩ := O
      go_wp2_with fail
      refine (M2 _).mono ?_
      rintro e v8 ⟨rfl, Bx⟩
      clear P0 P1 P2 P3 Q0 Q1 Q2 Q3 R0 R1 R2 R3 U0 U1 U2 U3 A0 A1 A2 A3 C0 C1 C2 C3 D0 D1 D2 D3 O0 O1 O2 O3
      replace P := P.kept Bx
      replace Q := Q.kept Bx
      replace R := R.kept Bx
      replace U := U.kept Bx
      replace A := A.kept Bx
      replace C := C.kept Bx
      replace D := D.kept Bx
      replace O := O.kept Bx
      replace B := SW.below1 B Bx
      clear Bx
      replace P := P.alloc (.cells #[.int .i64 (nl), .int .i64 (nh)] 34)
      replace Q := Q.alloc (.cells #[.int .i64 (nl), .int .i64 (nh)] 34)
      replace R := R.alloc (.cells #[.int .i64 (nl), .int .i64 (nh)] 34)
      replace U := U.alloc (.cells #[.int .i64 (nl), .int .i64 (nh)] 34)
      replace A := A.alloc (.cells #[.int .i64 (nl), .int .i64 (nh)] 34)
      replace C := C.alloc (.cells #[.int .i64 (nl), .int .i64 (nh)] 34)
      replace D := D.alloc (.cells #[.int .i64 (nl), .int .i64 (nh)] 34)
      replace O := O.alloc (.cells #[.int .i64 (nl), .int .i64 (nh)] 34)
      have T := SW.Box.new v8 (nl) (nh) 34
      replace B := SW.below1 B (SW.below_new v8 (.cells #[.int .i64 (nl), .int .i64 (nh)] 34))
      clear M1 M2 U A
      have ⟨P0, P1, P2, P3⟩ := P
      have ⟨Q0, Q1, Q2, Q3⟩ := Q
      have ⟨R0, R1, R2, R3⟩ := R
      have ⟨C0, C1, C2, C3⟩ := C
      have ⟨D0, D1, D2, D3⟩ := D
      have ⟨O0, O1, O2, O3⟩ := O
      have ⟨T0, T1, T2, T3⟩ := T
      go_wp2_with fail
      clear P0 P1 P2 P3 Q0 Q1 Q2 Q3 R0 R1 R2 R3 C0 C1 C2 C3 D0 D1 D2 D3 O0 O1 O2 O3 T0 T1 T2 T3
      generalize (v8.alloc (.cells #[.int .i64 (nl), .int .i64 (nh)] 34)) = v9 at *
      have Pk0 := cell_regrown P.c0
      have Pk1 := cell_regrown P.c1
      have Qk0 := cell_regrown Q.c0
      have Qk1 := cell_regrown Q.c1
      have Rk0 := cell_regrown R.c0
      have Rk1 := cell_regrown R.c1
      have Ck0 := cell_regrown C.c0
      have Ck1 := cell_regrown C.c1
      have Dk0 := cell_regrown D.c0
      have Dk1 := cell_regrown D.c1
      have Ok0 := cell_regrown O.c0
      have Ok1 := cell_regrown O.c1
      have Tk0 := cell_regrown T.c0
      have Tk1 := cell_regrown T.c1
      have c1 : ∀ d os, Calls Tryd.prog 27 #[spV cl ch] (grow (redrawn v9 d) os) fun e w'' => e = .returned (spV xl xh) ∧ (∃ p : Regrown, w'' = grow (redrawn v9 p.d) p.os) ∧ LQ.Keeps (LK.ndTwo v9.heap.size 8 14 (kl) (kh)) (grow (redrawn v9 d) os) w'' := fun d os => LK.of_below (D1 _)
      have c2 : ∀ d os, Calls Tryd.prog 27 #[spV dl dh] (grow (redrawn v9 d) os) fun e w'' => e = .returned (spV yl yh) ∧ (∃ p : Regrown, w'' = grow (redrawn v9 p.d) p.os) ∧ LQ.Keeps (LK.ndTwo v9.heap.size 8 14 (kl) (kh)) (grow (redrawn v9 d) os) w'' := fun d os => LK.of_below (D2 _)
      have c3 : ∀ d os, Calls Tryd.prog 26 #[spV xl xh, spV yl yh] (grow (redrawn v9 d) os) fun e w'' => e = .returned (.tuple #[spV kl kh, .bool true]) ∧ (∃ p : Regrown, w'' = grow (redrawn v9 p.d) p.os) ∧ LQ.Keeps (LK.ndTwo v9.heap.size 8 14 (kl) (kh)) (grow (redrawn v9 d) os) w'' := fun d os => LK.of_below (M3 _)
      refine LQ.region (LK.Cl v9) (LK.ndTwo v9.heap.size 8 14 (kl) (kh)) 10 [0, 1, 2, 3, 4, 5, 6, 7, 8, 9] (LK.ndTwo_local (by kernel_rfl)) (by kernel_rfl) (by kernel_rfl) (fun _ _ h => h) (LK.Cl.start v9 10) ?_
      iterate 1 (refine LQ.stepD rfl rfl (fun N hN => ?_); go_simp; apply Exists.intro; refine ⟨fun _ _ _ => ?_, hN _ _ ?_⟩; exact And.intro rfl rfl; clear hN N)
      refine LQ.stepD rfl rfl (fun N hN => ?_)
      go_simp
      apply Exists.intro
      refine ⟨fun _ _ _ => ?_, hN _ _ ?_⟩
      exact And.intro rfl (c1 _ _)
      clear hN N
      iterate 1 (refine LQ.stepD rfl rfl (fun N hN => ?_); go_simp; apply Exists.intro; refine ⟨fun _ _ _ => ?_, hN _ _ ?_⟩; exact And.intro rfl rfl; clear hN N)
      refine LQ.stepD rfl rfl (fun N hN => ?_)
      go_simp
      apply Exists.intro
      refine ⟨fun _ _ _ => ?_, hN _ _ ?_⟩
      exact And.intro rfl (c2 _ _)
      clear hN N
      refine LQ.stepD rfl rfl (fun N hN => ?_)
      go_simp
      apply Exists.intro
      refine ⟨fun _ _ _ => ?_, hN _ _ ?_⟩
      exact And.intro rfl (c3 _ _)
      clear hN N
      iterate 3 (refine LQ.stepD rfl rfl (fun N hN => ?_); go_simp; apply Exists.intro; refine ⟨fun _ _ _ => ?_, hN _ _ ?_⟩; exact And.intro rfl rfl; clear hN N)
      refine LQ.stepN rfl rfl (fun N hN => ?_)
      go_simp
      refine ⟨fun f p _ => LK.alloc v9 p.d p.os 8 14 (kl) (kh) _ _ (by simp [grow]), ?_⟩
      rintro u _ bv10 rfl hbv10 _ _ _
      refine hN _ _ ?_
      clear hN N c1 c2 c3 Pk0 Pk1 Qk0 Qk1 Rk0 Rk1 Ck0 Ck1 Dk0 Dk1 Ok0 Ok1 Tk0 Tk1
      refine LQ.stepN rfl rfl (fun N hN => ?_)
      go_simp
      refine ⟨fun f p hk => ?_, fun _ _ => hN _ _ ?_⟩
      · obtain ⟨x', y', X'⟩ := (hk _ (List.mem_cons_self ..)).2
        have X'' := X'
        obtain ⟨e0, e1, e2, e3⟩ := X''
        clear hk
        go_simp
        exact LK.store1 hbv10 X'
      clear hN N
      refine LQ.lexEnd ?_
      rintro v10 ⟨p, rfl⟩ kn
      have Bx := below_regrown v9 p.d p.os
      have E : SW.Box (grow (redrawn v9 p.d) p.os) bv10 (kl) (kh) := (kn _ (List.mem_cons_self ..)).2
      clear kn
      generalize grow (redrawn v9 p.d) p.os = v10 at *
      simp only [List.drop]
      replace P := P.kept Bx
      replace Q := Q.kept Bx
      replace R := R.kept Bx
      replace C := C.kept Bx
      replace D := D.kept Bx
      replace O := O.kept Bx
      replace T := T.kept Bx
      replace B := SW.below1 B Bx
      clear Bx
      clear D1 D2 M3 C D
      have hO := O.lt
      have ⟨P0, P1, P2, P3⟩ := P
      have ⟨Q0, Q1, Q2, Q3⟩ := Q
      have ⟨R0, R1, R2, R3⟩ := R
      have ⟨O0, O1, O2, O3⟩ := O
      have ⟨T0, T1, T2, T3⟩ := T
      have ⟨E0, E1, E2, E3⟩ := E
      go_wp2_with fail
      clear P0 P1 P2 P3 Q0 Q1 Q2 Q3 R0 R1 R2 R3 O0 O1 O2 O3 T0 T1 T2 T3 E0 E1 E2 E3
      have Pk0 := cell_regrown P.c0
      have Pk1 := cell_regrown P.c1
      have Qk0 := cell_regrown Q.c0
      have Qk1 := cell_regrown Q.c1
      have Rk0 := cell_regrown R.c0
      have Rk1 := cell_regrown R.c1
      have Ok0 := cell_regrown O.c0
      have Ok1 := cell_regrown O.c1
      have Tk0 := cell_regrown T.c0
      have Tk1 := cell_regrown T.c1
      have Ek0 := cell_regrown E.c0
      have Ek1 := cell_regrown E.c1
      have c1 : ∀ d os, Calls Tryd.prog 27 #[spV kl kh] (grow (redrawn v10 d) os) fun e w'' => e = .returned (spV bl bh) ∧ (∃ p : Regrown, w'' = grow (redrawn v10 p.d) p.os) ∧ LQ.Keeps (LK.ndTwo v10.heap.size 8 16 (tl) (th)) (grow (redrawn v10 d) os) w'' := fun d os => LK.of_below (D3 _)
      have c2 : ∀ d os, Calls Tryd.prog 27 #[spV nl nh] (grow (redrawn v10 d) os) fun e w'' => e = .returned (spV al ah) ∧ (∃ p : Regrown, w'' = grow (redrawn v10 p.d) p.os) ∧ LQ.Keeps (LK.ndTwo v10.heap.size 8 16 (tl) (th)) (grow (redrawn v10 d) os) w'' := fun d os => LK.of_below (D4 _)
      have c3 : ∀ d os, Calls Tryd.prog 26 #[spV bl bh, spV al ah] (grow (redrawn v10 d) os) fun e w'' => e = .returned (.tuple #[spV tl th, .bool true]) ∧ (∃ p : Regrown, w'' = grow (redrawn v10 p.d) p.os) ∧ LQ.Keeps (LK.ndTwo v10.heap.size 8 16 (tl) (th)) (grow (redrawn v10 d) os) w'' := fun d os => LK.of_below (M4 _)
      refine LQ.region (LK.Cl v10) (LK.ndTwo v10.heap.size 8 16 (tl) (th)) 10 [0, 1, 2, 3, 4, 5, 6, 7, 8, 9] (LK.ndTwo_local (by kernel_rfl)) (by kernel_rfl) (by kernel_rfl) (fun _ _ h => h) (LK.Cl.start v10 10) ?_
      iterate 1 (refine LQ.stepD rfl rfl (fun N hN => ?_); go_simp; apply Exists.intro; refine ⟨fun _ _ _ => ?_, hN _ _ ?_⟩; exact And.intro rfl rfl; clear hN N)
      refine LQ.stepD rfl rfl (fun N hN => ?_)
      go_simp
      apply Exists.intro
      refine ⟨fun _ _ _ => ?_, hN _ _ ?_⟩
      exact And.intro rfl (c1 _ _)
      clear hN N
      iterate 1 (refine LQ.stepD rfl rfl (fun N hN => ?_); go_simp; apply Exists.intro; refine ⟨fun _ _ _ => ?_, hN _ _ ?_⟩; exact And.intro rfl rfl; clear hN N)
      refine LQ.stepD rfl rfl (fun N hN => ?_)
      go_simp
      apply Exists.intro
      refine ⟨fun _ _ _ => ?_, hN _ _ ?_⟩
      exact And.intro rfl (c2 _ _)
      clear hN N
      refine LQ.stepD rfl rfl (fun N hN => ?_)
      go_simp
      apply Exists.intro
      refine ⟨fun _ _ _ => ?_, hN _ _ ?_⟩
      exact And.intro rfl (c3 _ _)
      clear hN N
      iterate 3 (refine LQ.stepD rfl rfl (fun N hN => ?_); go_simp; apply Exists.intro; refine ⟨fun _ _ _ => ?_, hN _ _ ?_⟩; exact And.intro rfl rfl; clear hN N)
      refine LQ.stepN rfl rfl (fun N hN => ?_)
      go_simp
      refine ⟨fun f p _ => LK.alloc v10 p.d p.os 8 16 (tl) (th) _ _ (by simp [grow]), ?_⟩
      rintro u _ bv11 rfl hbv11 _ _ _
      refine hN _ _ ?_
      clear hN N c1 c2 c3 Pk0 Pk1 Qk0 Qk1 Rk0 Rk1 Ok0 Ok1 Tk0 Tk1 Ek0 Ek1
      refine LQ.stepN rfl rfl (fun N hN => ?_)
      go_simp
      refine ⟨fun f p hk => ?_, fun _ _ => hN _ _ ?_⟩
      · obtain ⟨x', y', X'⟩ := (hk _ (List.mem_cons_self ..)).2
        have X'' := X'
        obtain ⟨e0, e1, e2, e3⟩ := X''
        clear hk
        go_simp
        exact LK.store1 hbv11 X'
      clear hN N
      refine LQ.lexEnd ?_
      rintro v11 ⟨p, rfl⟩ kn
      have Bx := below_regrown v10 p.d p.os
      have H : SW.Box (grow (redrawn v10 p.d) p.os) bv11 (tl) (th) := (kn _ (List.mem_cons_self ..)).2
      clear kn
      generalize grow (redrawn v10 p.d) p.os = v11 at *
      simp only [List.drop]
      replace P := P.kept Bx
      replace Q := Q.kept Bx
      replace R := R.kept Bx
      replace O := O.kept Bx
      replace T := T.kept Bx
      replace E := E.kept Bx
      replace B := SW.below1 B Bx
      clear Bx
      clear D3 D4 M4 E T P Q
      have ⟨R0, R1, R2, R3⟩ := R
      have ⟨O0, O1, O2, O3⟩ := O
      have ⟨H0, H1, H2, H3⟩ := H
      go_wp2_with fail
      refine (D5 _).mono ?_
      rintro e v12 ⟨rfl, Bx⟩
      clear R0 R1 R2 R3 O0 O1 O2 O3 H0 H1 H2 H3
      replace R := R.kept Bx
      replace O := O.kept Bx
      replace H := H.kept Bx
      replace B := SW.below1 B Bx
      clear Bx
      have ⟨O0, O1, O2, O3⟩ := O
      have H' := (H.apart (c := v7.heap.size) (o := 0) (by omega) (.int .i64 ol)).apart (c := v7.heap.size) (o := 1) (by omega) (.int .i64 oh)
      have ⟨H0, H1, H2, H3⟩ := H'
      go_wp2_with fail
      refine (D6 _).mono ?_
      rintro e z1 ⟨rfl, Bx⟩
      clear O0 O1 O2 O3 H0 H1 H2 H3
      obtain ⟨R0, R1, R2, R3⟩ := ((R.apart (c := v7.heap.size) (o := 0) (by omega) (.int .i64 ol)).apart (c := v7.heap.size) (o := 1) (by omega) (.int .i64 oh)).kept Bx
      replace B := SW.below1 (SW.below_set2 B (show w.heap.size ≤ v7.heap.size by omega) (.int .i64 ol) (.int .i64 oh)) Bx
      clear Bx O H H'
      go_wp2
      refine bodyPost_ret (v := .tuple #[.agg #[.int .i64 sl, .int .i64 sh], .bool true]) (by simp [results, Tryd.results11, go_sem, *]) rfl ⟨rfl, ?_⟩
      exact SW.below_set2 B (by omega) _ _
end SK
end Go.Proofs.YtfdkpcejjcifgauDoor
