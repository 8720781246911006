/-
  Ways that are turned: what the program's TurnBy returns. Both ends are set by pointers.
-/
import Derived.Test.YtiidbbnclhknpaaDoorTurnWalks
import Derived.Test.YtiidbbnclhknpaaDoorSineImpl
namespace Go.Proofs.YtiidbbnclhknpaaDoor
open Go.RowKit Go.Sort
set_option linter.unusedVariables false
namespace SK
theorem scaled_any (u tl th : Int) (w : World) (u0 : -500000000 ≤ u) (u1 : u ≤ 500000000) (p1 : -1073000000 ≤ tl) (p2 : tl ≤ th) (p3 : th ≤ 1073000000) :
    Calls Tryd.prog 24 #[.int .i64 u, spV tl th] w fun e w' => e = .returned (spV (SM.mulLo u u tl th) (SM.mulHi u u tl th)) ∧ Below w.heap.size w w' := by
  have K1 : ∀ w, Calls Tryd.prog 27 #[spV u u, spV tl th, .func (.func 28) #[] #[]] w fun e w' => e = .returned (spV (SM.mulLo u u tl th) (SM.mulHi u u tl th)) ∧ Below w.heap.size w w' := fun w => SW.endsMul_any u u tl th w (by omega) (by omega) (by omega) p1 p2 p3
  generalize SM.mulLo u u tl th = p at *
  generalize SM.mulHi u u tl th = q at *
  have X := (SW.Box.new w tl th 26).alloc (.cells #[.int .i64 0, .int .i64 0] 26)
  have R := SW.Box.new2 w (.cells #[.int .i64 tl, .int .i64 th] 26) 0 0 26
  have B := SW.below_new2 w (.cells #[.int .i64 tl, .int .i64 th] 26) (.cells #[.int .i64 0, .int .i64 0] 26)
  go_enter Tryd.func24, Tryd.ntmps24
  have ⟨X0, X1, X2, X3⟩ := X
  go_wp2_with fail
  refine (K1 _).mono ?_
  rintro e w1 ⟨rfl, B1⟩
  clear X0 X1 X2 X3 X K1
  obtain ⟨R0, R1, R2, R3⟩ := R.kept B1
  replace B := SW.below1 B B1
  clear B1
  go_wp2
  refine bodyPost_ret (v := .agg #[.int .i64 p, .int .i64 q]) (by simp [results, Tryd.results24, go_sem, *]) rfl ⟨rfl, ?_⟩
  exact SW.below_set2 B (by omega) _ _
theorem setSum_any (b : Nat) (x y sl sh tl th : Int) (w : World) (X : SW.Box w b x y) (h1 : -9000000000 ≤ sl ∧ sl ≤ 9000000000) (h2 : -9000000000 ≤ sh ∧ sh ≤ 9000000000) (h3 : -9000000000 ≤ tl ∧ tl ≤ 9000000000) (h4 : -9000000000 ≤ th ∧ th ≤ 9000000000) :
    Calls Tryd.prog 23 #[.pointer (some ⟨b, 0, none⟩), .pointer (some ⟨b, 1, none⟩), spV sl sh, spV tl th] w fun e w' => e = .returned (.tuple #[]) ∧ w' = (((w.setCell ⟨b, 0, none⟩ (.int .i64 (sl + tl))).setCell ⟨b, 1, none⟩ (.int .i64 (sh + th))).alloc (.cells #[.int .i64 sl, .int .i64 sh] 26)).alloc (.cells #[.int .i64 tl, .int .i64 th] 26) := by
  have hb := X.lt
  have n1 : b ≠ w.heap.size := by omega
  have n2 : b ≠ w.heap.size + 1 := by omega
  have ⟨c0, c1, f0, f1⟩ := X
  have S := (SW.Box.new w sl sh 26).alloc (.cells #[.int .i64 tl, .int .i64 th] 26)
  have T := SW.Box.new2 w (.cells #[.int .i64 sl, .int .i64 sh] 26) tl th 26
  have X' := (X.alloc (.cells #[.int .i64 sl, .int .i64 sh] 26)).alloc (.cells #[.int .i64 tl, .int .i64 th] 26)
  have S' := S.apart (c := b) (o := 0) (by omega) (.int .i64 (sl + tl))
  have T' := T.apart (c := b) (o := 0) (by omega) (.int .i64 (sl + tl))
  have z1 : (((w.alloc (.cells #[.int .i64 sl, .int .i64 sh] 26)).alloc (.cells #[.int .i64 tl, .int .i64 th] 26)).setCell ⟨b, 0, none⟩ (.int .i64 (sl + tl))).frozen? ⟨b, 1, none⟩ = false := by simp [go_sem, X'.f1]
  obtain ⟨h1, h1'⟩ := h1
  obtain ⟨h2, h2'⟩ := h2
  obtain ⟨h3, h3'⟩ := h3
  obtain ⟨h4, h4'⟩ := h4
  go_enter Tryd.func23, Tryd.ntmps23
  obtain ⟨S0, S1, S2, S3⟩ := S
  obtain ⟨T0, T1, T2, T3⟩ := T
  obtain ⟨V0, V1, V2, V3⟩ := S'
  obtain ⟨U0, U1, U2, U3⟩ := T'
  obtain ⟨X0, X1, X2, X3⟩ := X'
  go_wp2
  go_end0
  exact ⟨rfl, rfl⟩
theorem setDiff_any (b : Nat) (x y sl sh tl th : Int) (w : World) (X : SW.Box w b x y) (h1 : -9000000000 ≤ sl ∧ sl ≤ 9000000000) (h2 : -9000000000 ≤ sh ∧ sh ≤ 9000000000) (h3 : -9000000000 ≤ tl ∧ tl ≤ 9000000000) (h4 : -9000000000 ≤ th ∧ th ≤ 9000000000) :
    Calls Tryd.prog 25 #[.pointer (some ⟨b, 0, none⟩), .pointer (some ⟨b, 1, none⟩), spV sl sh, spV tl th] w fun e w' => e = .returned (.tuple #[]) ∧ w' = (((w.setCell ⟨b, 0, none⟩ (.int .i64 (sl - th))).setCell ⟨b, 1, none⟩ (.int .i64 (sh - tl))).alloc (.cells #[.int .i64 sl, .int .i64 sh] 26)).alloc (.cells #[.int .i64 tl, .int .i64 th] 26) := by
  have hb := X.lt
  have n1 : b ≠ w.heap.size := by omega
  have n2 : b ≠ w.heap.size + 1 := by omega
  have ⟨c0, c1, f0, f1⟩ := X
  have S := (SW.Box.new w sl sh 26).alloc (.cells #[.int .i64 tl, .int .i64 th] 26)
  have T := SW.Box.new2 w (.cells #[.int .i64 sl, .int .i64 sh] 26) tl th 26
  have X' := (X.alloc (.cells #[.int .i64 sl, .int .i64 sh] 26)).alloc (.cells #[.int .i64 tl, .int .i64 th] 26)
  have S' := S.apart (c := b) (o := 0) (by omega) (.int .i64 (sl - th))
  have T' := T.apart (c := b) (o := 0) (by omega) (.int .i64 (sl - th))
  have z1 : (((w.alloc (.cells #[.int .i64 sl, .int .i64 sh] 26)).alloc (.cells #[.int .i64 tl, .int .i64 th] 26)).setCell ⟨b, 0, none⟩ (.int .i64 (sl - th))).frozen? ⟨b, 1, none⟩ = false := by simp [go_sem, X'.f1]
  obtain ⟨h1, h1'⟩ := h1
  obtain ⟨h2, h2'⟩ := h2
  obtain ⟨h3, h3'⟩ := h3
  obtain ⟨h4, h4'⟩ := h4
  go_enter Tryd.func25, Tryd.ntmps25
  obtain ⟨S0, S1, S2, S3⟩ := S
  obtain ⟨T0, T1, T2, T3⟩ := T
  obtain ⟨V0, V1, V2, V3⟩ := S'
  obtain ⟨U0, U1, U2, U3⟩ := T'
  obtain ⟨X0, X1, X2, X3⟩ := X'
  go_wp2
  go_end0
  exact ⟨rfl, rfl⟩
set_option maxHeartbeats 4000000 in
theorem turnBy_any (u r a : Int) (w : World) : Calls Tryd.prog 7 #[.int .i64 u, .int .i64 r, .int .i64 a] w fun e w' => e = .returned (.tuple #[spV (SM.sel (trB u r a) (SI.tyL u r a)) (SM.sel (trB u r a) (SI.tyH u r a)), spV (SM.sel (trB u r a) (SI.txL u r a)) (SM.sel (trB u r a) (SI.txH u r a)), .bool (trB u r a)]) ∧ Below w.heap.size w w' := by
  cases h1 : SW.halfB u
  · have K1 : ∀ w, Calls Tryd.prog 20 #[.int .i64 u] w fun e w' => e = .returned (.bool false) ∧ Below w.heap.size w w' := fun w => by have := SW.isHalf_any u w; rw [h1] at this; exact this.mono fun _ _ ⟨x, y⟩ => ⟨x, y ▸ Below.refl _ _⟩
    rw [tr_no1 (by unfold SW.wayB; rw [h1]; rfl)]
    simp only [SM.sel]
    clear h1
    have R := SW.Box.new w (0) (0) 26
    have B := SW.below_new w (.cells #[.int .i64 (0), .int .i64 (0)] 26)
    replace R := R.alloc (.cells #[.int .i64 (0), .int .i64 (0)] 26)
    have Q : SW.Box ((w.alloc (.cells #[.int .i64 (0), .int .i64 (0)] 26)).alloc (.cells #[.int .i64 (0), .int .i64 (0)] 26)) (w.heap.size + 1) (0) (0) := by simpa using SW.Box.new (w.alloc (.cells #[.int .i64 (0), .int .i64 (0)] 26)) (0) (0) 26
    replace B := SW.below1 B (SW.below_new (w.alloc (.cells #[.int .i64 (0), .int .i64 (0)] 26)) (.cells #[.int .i64 (0), .int .i64 (0)] 26))
    go_enter Tryd.func7, Tryd.ntmps7
    have ⟨R0, R1, R2, R3⟩ := R
    have ⟨Q0, Q1, Q2, Q3⟩ := Q
    go_wp2_with fail
    refine (K1 _).mono ?_
    rintro e v1 ⟨rfl, Bx⟩
    clear R0 R1 R2 R3 Q0 Q1 Q2 Q3
    replace R := R.kept Bx
    replace Q := Q.kept Bx
    replace B := SW.below1 B Bx
    clear Bx
    have ⟨R0, R1, R2, R3⟩ := R
    have ⟨Q0, Q1, Q2, Q3⟩ := Q
    go_wp2
    refine bodyPost_ret (v := .tuple #[.agg #[.int .i64 0, .int .i64 0], .agg #[.int .i64 0, .int .i64 0], .bool false]) (by simp [results, Tryd.results7, go_sem, *]) rfl ⟨rfl, ?_⟩
    exact SW.below_set2 (SW.below_set2 B (by omega) _ _) (by omega) _ _
  · cases h2 : SW.halfB r
    · have K1 : ∀ w, Calls Tryd.prog 20 #[.int .i64 u] w fun e w' => e = .returned (.bool true) ∧ Below w.heap.size w w' := fun w => by have := SW.isHalf_any u w; rw [h1] at this; exact this.mono fun _ _ ⟨x, y⟩ => ⟨x, y ▸ Below.refl _ _⟩
      have K2 : ∀ w, Calls Tryd.prog 20 #[.int .i64 r] w fun e w' => e = .returned (.bool false) ∧ Below w.heap.size w w' := fun w => by have := SW.isHalf_any r w; rw [h2] at this; exact this.mono fun _ _ ⟨x, y⟩ => ⟨x, y ▸ Below.refl _ _⟩
      rw [tr_no1 (by unfold SW.wayB; rw [h1, h2]; rfl)]
      simp only [SM.sel]
      clear h1 h2
      have R := SW.Box.new w (0) (0) 26
      have B := SW.below_new w (.cells #[.int .i64 (0), .int .i64 (0)] 26)
      replace R := R.alloc (.cells #[.int .i64 (0), .int .i64 (0)] 26)
      have Q : SW.Box ((w.alloc (.cells #[.int .i64 (0), .int .i64 (0)] 26)).alloc (.cells #[.int .i64 (0), .int .i64 (0)] 26)) (w.heap.size + 1) (0) (0) := by simpa using SW.Box.new (w.alloc (.cells #[.int .i64 (0), .int .i64 (0)] 26)) (0) (0) 26
      replace B := SW.below1 B (SW.below_new (w.alloc (.cells #[.int .i64 (0), .int .i64 (0)] 26)) (.cells #[.int .i64 (0), .int .i64 (0)] 26))
      go_enter Tryd.func7, Tryd.ntmps7
      have ⟨R0, R1, R2, R3⟩ := R
      have ⟨Q0, Q1, Q2, Q3⟩ := Q
      go_wp2_with fail
      refine (K1 _).mono ?_
      rintro e v1 ⟨rfl, Bx⟩
      clear R0 R1 R2 R3 Q0 Q1 Q2 Q3
      replace R := R.kept Bx
      replace Q := Q.kept Bx
      replace B := SW.below1 B Bx
      clear Bx
      have ⟨R0, R1, R2, R3⟩ := R
      have ⟨Q0, Q1, Q2, Q3⟩ := Q
      go_wp2_with fail
      refine (K2 _).mono ?_
      rintro e v2 ⟨rfl, Bx⟩
      clear R0 R1 R2 R3 Q0 Q1 Q2 Q3
      replace R := R.kept Bx
      replace Q := Q.kept Bx
      replace B := SW.below1 B Bx
      clear Bx
      have ⟨R0, R1, R2, R3⟩ := R
      have ⟨Q0, Q1, Q2, Q3⟩ := Q
      go_wp2
      refine bodyPost_ret (v := .tuple #[.agg #[.int .i64 0, .int .i64 0], .agg #[.int .i64 0, .int .i64 0], .bool false]) (by simp [results, Tryd.results7, go_sem, *]) rfl ⟨rfl, ?_⟩
      exact SW.below_set2 (SW.below_set2 B (by omega) _ _) (by omega) _ _
    · cases ha : okA a
      · have K1 : ∀ w, Calls Tryd.prog 20 #[.int .i64 u] w fun e w' => e = .returned (.bool true) ∧ Below w.heap.size w w' := fun w => by have := SW.isHalf_any u w; rw [h1] at this; exact this.mono fun _ _ ⟨x, y⟩ => ⟨x, y ▸ Below.refl _ _⟩
        have K2 : ∀ w, Calls Tryd.prog 20 #[.int .i64 r] w fun e w' => e = .returned (.bool true) ∧ Below w.heap.size w w' := fun w => by have := SW.isHalf_any r w; rw [h2] at this; exact this.mono fun _ _ ⟨x, y⟩ => ⟨x, y ▸ Below.refl _ _⟩
        have K3 : ∀ w, Calls Tryd.prog 21 #[.int .i64 a] w fun e w' => e = .returned (.bool false) ∧ Below w.heap.size w w' := fun w => by have := isOk_any a w; rw [ha] at this; exact this.mono fun _ _ ⟨x, y⟩ => ⟨x, y ▸ Below.refl _ _⟩
        rw [tr_no2 ha]
        simp only [SM.sel]
        clear h1 h2 ha
        have R := SW.Box.new w (0) (0) 26
        have B := SW.below_new w (.cells #[.int .i64 (0), .int .i64 (0)] 26)
        replace R := R.alloc (.cells #[.int .i64 (0), .int .i64 (0)] 26)
        have Q : SW.Box ((w.alloc (.cells #[.int .i64 (0), .int .i64 (0)] 26)).alloc (.cells #[.int .i64 (0), .int .i64 (0)] 26)) (w.heap.size + 1) (0) (0) := by simpa using SW.Box.new (w.alloc (.cells #[.int .i64 (0), .int .i64 (0)] 26)) (0) (0) 26
        replace B := SW.below1 B (SW.below_new (w.alloc (.cells #[.int .i64 (0), .int .i64 (0)] 26)) (.cells #[.int .i64 (0), .int .i64 (0)] 26))
        go_enter Tryd.func7, Tryd.ntmps7
        have ⟨R0, R1, R2, R3⟩ := R
        have ⟨Q0, Q1, Q2, Q3⟩ := Q
        go_wp2_with fail
        refine (K1 _).mono ?_
        rintro e v1 ⟨rfl, Bx⟩
        clear R0 R1 R2 R3 Q0 Q1 Q2 Q3
        replace R := R.kept Bx
        replace Q := Q.kept Bx
        replace B := SW.below1 B Bx
        clear Bx
        have ⟨R0, R1, R2, R3⟩ := R
        have ⟨Q0, Q1, Q2, Q3⟩ := Q
        go_wp2_with fail
        refine (K2 _).mono ?_
        rintro e v2 ⟨rfl, Bx⟩
        clear R0 R1 R2 R3 Q0 Q1 Q2 Q3
        replace R := R.kept Bx
        replace Q := Q.kept Bx
        replace B := SW.below1 B Bx
        clear Bx
        have ⟨R0, R1, R2, R3⟩ := R
        have ⟨Q0, Q1, Q2, Q3⟩ := Q
        go_wp2_with fail
        refine (K3 _).mono ?_
        rintro e v3 ⟨rfl, Bx⟩
        clear R0 R1 R2 R3 Q0 Q1 Q2 Q3
        replace R := R.kept Bx
        replace Q := Q.kept Bx
        replace B := SW.below1 B Bx
        clear Bx
        have ⟨R0, R1, R2, R3⟩ := R
        have ⟨Q0, Q1, Q2, Q3⟩ := Q
        go_wp2
        refine bodyPost_ret (v := .tuple #[.agg #[.int .i64 0, .int .i64 0], .agg #[.int .i64 0, .int .i64 0], .bool false]) (by simp [results, Tryd.results7, go_sem, *]) rfl ⟨rfl, ?_⟩
        exact SW.below_set2 (SW.below_set2 B (by omega) _ _) (by omega) _ _
      · have K1 : ∀ w, Calls Tryd.prog 20 #[.int .i64 u] w fun e w' => e = .returned (.bool true) ∧ Below w.heap.size w w' := fun w => by have := SW.isHalf_any u w; rw [h1] at this; exact this.mono fun _ _ ⟨x, y⟩ => ⟨x, y ▸ Below.refl _ _⟩
        have K2 : ∀ w, Calls Tryd.prog 20 #[.int .i64 r] w fun e w' => e = .returned (.bool true) ∧ Below w.heap.size w w' := fun w => by have := SW.isHalf_any r w; rw [h2] at this; exact this.mono fun _ _ ⟨x, y⟩ => ⟨x, y ▸ Below.refl _ _⟩
        have K3 : ∀ w, Calls Tryd.prog 21 #[.int .i64 a] w fun e w' => e = .returned (.bool true) ∧ Below w.heap.size w w' := fun w => by have := isOk_any a w; rw [ha] at this; exact this.mono fun _ _ ⟨x, y⟩ => ⟨x, y ▸ Below.refl _ _⟩
        have hw : SW.wayB u r = true := by unfold SW.wayB; rw [h1, h2]; rfl
        rw [tr_mk hw ha]
        simp only [SM.sel]
        obtain ⟨⟨u0, u1⟩, r0, r1⟩ := SW.wayB_of hw
        obtain ⟨a0, a1⟩ := okA_of ha
        obtain ⟨b1, b2, b3⟩ := SI.mul_half u0 u1 (SI.si_enc (2 * a + 64800000)).2
        obtain ⟨b4, b5, b6⟩ := SI.mul_half r0 r1 (SI.si_enc (2 * a)).2
        obtain ⟨b7, b8, b9⟩ := SI.mul_half r0 r1 (SI.si_enc (2 * a + 64800000)).2
        obtain ⟨b10, b11, b12⟩ := SI.mul_half u0 u1 (SI.si_enc (2 * a)).2
        obtain ⟨f1, f2, f3, _⟩ := (SI.si_enc (2 * a)).2
        obtain ⟨f4, f5, f6, _⟩ := (SI.si_enc (2 * a + 64800000)).2
        have T1 : ∀ w, Calls Tryd.prog 22 #[.int .i64 (2 * a)] w fun e w' => e = .returned (spV (SI.siL (2 * a)) (SI.siH (2 * a))) ∧ Below w.heap.size w w' := fun w => sineOfHalves_any (2 * a) w (by omega) (by omega)
        have T2 : ∀ w, Calls Tryd.prog 22 #[.int .i64 (2 * a + 64800000)] w fun e w' => e = .returned (spV (SI.siL (2 * a + 64800000)) (SI.siH (2 * a + 64800000))) ∧ Below w.heap.size w w' := fun w => sineOfHalves_any (2 * a + 64800000) w (by omega) (by omega)
        have M1 : ∀ w, Calls Tryd.prog 24 #[.int .i64 u, spV (SI.siL (2 * a + 64800000)) (SI.siH (2 * a + 64800000))] w fun e w' => e = .returned (spV (SM.mulLo (u) (u) (SI.siL (2 * a + 64800000)) (SI.siH (2 * a + 64800000))) (SM.mulHi (u) (u) (SI.siL (2 * a + 64800000)) (SI.siH (2 * a + 64800000)))) ∧ Below w.heap.size w w' := fun w => scaled_any u (SI.siL (2 * a + 64800000)) (SI.siH (2 * a + 64800000)) w (by omega) (by omega) (by omega) (by omega) (by omega)
        have M2 : ∀ w, Calls Tryd.prog 24 #[.int .i64 r, spV (SI.siL (2 * a)) (SI.siH (2 * a))] w fun e w' => e = .returned (spV (SM.mulLo (r) (r) (SI.siL (2 * a)) (SI.siH (2 * a))) (SM.mulHi (r) (r) (SI.siL (2 * a)) (SI.siH (2 * a)))) ∧ Below w.heap.size w w' := fun w => scaled_any r (SI.siL (2 * a)) (SI.siH (2 * a)) w (by omega) (by omega) (by omega) (by omega) (by omega)
        have M3 : ∀ w, Calls Tryd.prog 24 #[.int .i64 r, spV (SI.siL (2 * a + 64800000)) (SI.siH (2 * a + 64800000))] w fun e w' => e = .returned (spV (SM.mulLo (r) (r) (SI.siL (2 * a + 64800000)) (SI.siH (2 * a + 64800000))) (SM.mulHi (r) (r) (SI.siL (2 * a + 64800000)) (SI.siH (2 * a + 64800000)))) ∧ Below w.heap.size w w' := fun w => scaled_any r (SI.siL (2 * a + 64800000)) (SI.siH (2 * a + 64800000)) w (by omega) (by omega) (by omega) (by omega) (by omega)
        have M4 : ∀ w, Calls Tryd.prog 24 #[.int .i64 u, spV (SI.siL (2 * a)) (SI.siH (2 * a))] w fun e w' => e = .returned (spV (SM.mulLo (u) (u) (SI.siL (2 * a)) (SI.siH (2 * a))) (SM.mulHi (u) (u) (SI.siL (2 * a)) (SI.siH (2 * a)))) ∧ Below w.heap.size w w' := fun w => scaled_any u (SI.siL (2 * a)) (SI.siH (2 * a)) w (by omega) (by omega) (by omega) (by omega) (by omega)
        unfold SI.tyL SI.tyH SI.txL SI.txH
        clear hw ha h1 h2
        generalize SM.mulLo u u (SI.siL (2 * a + 64800000)) (SI.siH (2 * a + 64800000)) = p1 at *
        generalize SM.mulHi u u (SI.siL (2 * a + 64800000)) (SI.siH (2 * a + 64800000)) = q1 at *
        generalize SM.mulLo r r (SI.siL (2 * a)) (SI.siH (2 * a)) = p2 at *
        generalize SM.mulHi r r (SI.siL (2 * a)) (SI.siH (2 * a)) = q2 at *
        generalize SM.mulLo r r (SI.siL (2 * a + 64800000)) (SI.siH (2 * a + 64800000)) = p3 at *
        generalize SM.mulHi r r (SI.siL (2 * a + 64800000)) (SI.siH (2 * a + 64800000)) = q3 at *
        generalize SM.mulLo u u (SI.siL (2 * a)) (SI.siH (2 * a)) = p4 at *
        generalize SM.mulHi u u (SI.siL (2 * a)) (SI.siH (2 * a)) = q4 at *
        generalize SI.siL (2 * a) = sl at *
        generalize SI.siH (2 * a) = sh at *
        generalize SI.siL (2 * a + 64800000) = cl at *
        generalize SI.siH (2 * a + 64800000) = ch at *
        have R := SW.Box.new w (0) (0) 26
        have B := SW.below_new w (.cells #[.int .i64 (0), .int .i64 (0)] 26)
        replace R := R.alloc (.cells #[.int .i64 (0), .int .i64 (0)] 26)
        have Q : SW.Box ((w.alloc (.cells #[.int .i64 (0), .int .i64 (0)] 26)).alloc (.cells #[.int .i64 (0), .int .i64 (0)] 26)) (w.heap.size + 1) (0) (0) := by simpa using SW.Box.new (w.alloc (.cells #[.int .i64 (0), .int .i64 (0)] 26)) (0) (0) 26
        replace B := SW.below1 B (SW.below_new (w.alloc (.cells #[.int .i64 (0), .int .i64 (0)] 26)) (.cells #[.int .i64 (0), .int .i64 (0)] 26))
        go_enter Tryd.func7, Tryd.ntmps7
        have ⟨R0, R1, R2, R3⟩ := R
        have ⟨Q0, Q1, Q2, Q3⟩ := Q
        go_wp2_with fail
        refine (K1 _).mono ?_
        rintro e v1 ⟨rfl, Bx⟩
        clear R0 R1 R2 R3 Q0 Q1 Q2 Q3
        replace R := R.kept Bx
        replace Q := Q.kept Bx
        replace B := SW.below1 B Bx
        clear Bx
        have ⟨R0, R1, R2, R3⟩ := R
        have ⟨Q0, Q1, Q2, Q3⟩ := Q
        go_wp2_with fail
        refine (K2 _).mono ?_
        rintro e v2 ⟨rfl, Bx⟩
        clear R0 R1 R2 R3 Q0 Q1 Q2 Q3
        replace R := R.kept Bx
        replace Q := Q.kept Bx
        replace B := SW.below1 B Bx
        clear Bx
        have ⟨R0, R1, R2, R3⟩ := R
        have ⟨Q0, Q1, Q2, Q3⟩ := Q
        go_wp2_with fail
        refine (K3 _).mono ?_
        rintro e v3 ⟨rfl, Bx⟩
        clear R0 R1 R2 R3 Q0 Q1 Q2 Q3
        replace R := R.kept Bx
        replace Q := Q.kept Bx
        replace B := SW.below1 B Bx
        clear Bx
        clear K1 K2 K3
        have ⟨R0, R1, R2, R3⟩ := R
        have ⟨Q0, Q1, Q2, Q3⟩ := Q
        go_wp2_with fail
        refine (T1 _).mono ?_
        rintro e v4 ⟨rfl, Bx⟩
        clear R0 R1 R2 R3 Q0 Q1 Q2 Q3
        replace R := R.kept Bx
        replace Q := Q.kept Bx
        replace B := SW.below1 B Bx
        clear Bx
        have ⟨R0, R1, R2, R3⟩ := R
        have ⟨Q0, Q1, Q2, Q3⟩ := Q
        go_wp2_with fail
        refine (T2 _).mono ?_
        rintro e v5 ⟨rfl, Bx⟩
        clear R0 R1 R2 R3 Q0 Q1 Q2 Q3
        replace R := R.kept Bx
        replace Q := Q.kept Bx
        replace B := SW.below1 B Bx
        clear Bx
        clear T1 T2
        have lt := Q.lt
        replace R := R.alloc (.cells #[.int .i64 (sl), .int .i64 (sh)] 26)
        replace Q := Q.alloc (.cells #[.int .i64 (sl), .int .i64 (sh)] 26)
        have S := SW.Box.new v5 (sl) (sh) 26
        replace B := SW.below1 B (SW.below_new v5 (.cells #[.int .i64 (sl), .int .i64 (sh)] 26))
        replace R := R.alloc (.cells #[.int .i64 (cl), .int .i64 (ch)] 26)
        replace Q := Q.alloc (.cells #[.int .i64 (cl), .int .i64 (ch)] 26)
        replace S := S.alloc (.cells #[.int .i64 (cl), .int .i64 (ch)] 26)
        have C : SW.Box ((v5.alloc (.cells #[.int .i64 (sl), .int .i64 (sh)] 26)).alloc (.cells #[.int .i64 (cl), .int .i64 (ch)] 26)) (v5.heap.size + 1) (cl) (ch) := by simpa using SW.Box.new (v5.alloc (.cells #[.int .i64 (sl), .int .i64 (sh)] 26)) (cl) (ch) 26
        replace B := SW.below1 B (SW.below_new (v5.alloc (.cells #[.int .i64 (sl), .int .i64 (sh)] 26)) (.cells #[.int .i64 (cl), .int .i64 (ch)] 26))
        replace R := R.alloc (.cells #[.int .i64 (0), .int .i64 (0)] 26)
        replace Q := Q.alloc (.cells #[.int .i64 (0), .int .i64 (0)] 26)
        replace S := S.alloc (.cells #[.int .i64 (0), .int .i64 (0)] 26)
        replace C := C.alloc (.cells #[.int .i64 (0), .int .i64 (0)] 26)
        have U : SW.Box (((v5.alloc (.cells #[.int .i64 (sl), .int .i64 (sh)] 26)).alloc (.cells #[.int .i64 (cl), .int .i64 (ch)] 26)).alloc (.cells #[.int .i64 (0), .int .i64 (0)] 26)) (v5.heap.size + 1 + 1) (0) (0) := by simpa using SW.Box.new ((v5.alloc (.cells #[.int .i64 (sl), .int .i64 (sh)] 26)).alloc (.cells #[.int .i64 (cl), .int .i64 (ch)] 26)) (0) (0) 26
        replace B := SW.below1 B (SW.below_new ((v5.alloc (.cells #[.int .i64 (sl), .int .i64 (sh)] 26)).alloc (.cells #[.int .i64 (cl), .int .i64 (ch)] 26)) (.cells #[.int .i64 (0), .int .i64 (0)] 26))
        replace R := R.alloc (.cells #[.int .i64 (0), .int .i64 (0)] 26)
        replace Q := Q.alloc (.cells #[.int .i64 (0), .int .i64 (0)] 26)
        replace S := S.alloc (.cells #[.int .i64 (0), .int .i64 (0)] 26)
        replace C := C.alloc (.cells #[.int .i64 (0), .int .i64 (0)] 26)
        replace U := U.alloc (.cells #[.int .i64 (0), .int .i64 (0)] 26)
        have V : SW.Box ((((v5.alloc (.cells #[.int .i64 (sl), .int .i64 (sh)] 26)).alloc (.cells #[.int .i64 (cl), .int .i64 (ch)] 26)).alloc (.cells #[.int .i64 (0), .int .i64 (0)] 26)).alloc (.cells #[.int .i64 (0), .int .i64 (0)] 26)) (v5.heap.size + 1 + 1 + 1) (0) (0) := by simpa using SW.Box.new (((v5.alloc (.cells #[.int .i64 (sl), .int .i64 (sh)] 26)).alloc (.cells #[.int .i64 (cl), .int .i64 (ch)] 26)).alloc (.cells #[.int .i64 (0), .int .i64 (0)] 26)) (0) (0) 26
        replace B := SW.below1 B (SW.below_new (((v5.alloc (.cells #[.int .i64 (sl), .int .i64 (sh)] 26)).alloc (.cells #[.int .i64 (cl), .int .i64 (ch)] 26)).alloc (.cells #[.int .i64 (0), .int .i64 (0)] 26)) (.cells #[.int .i64 (0), .int .i64 (0)] 26))
        have ⟨R0, R1, R2, R3⟩ := R
        have ⟨Q0, Q1, Q2, Q3⟩ := Q
        have ⟨S0, S1, S2, S3⟩ := S
        have ⟨C0, C1, C2, C3⟩ := C
        have ⟨U0, U1, U2, U3⟩ := U
        have ⟨V0, V1, V2, V3⟩ := V
        go_wp2_with fail
        clear R0 R1 R2 R3 Q0 Q1 Q2 Q3 S0 S1 S2 S3 C0 C1 C2 C3 U0 U1 U2 U3 V0 V1 V2 V3
        generalize ((((v5.alloc (.cells #[.int .i64 (sl), .int .i64 (sh)] 26)).alloc (.cells #[.int .i64 (cl), .int .i64 (ch)] 26)).alloc (.cells #[.int .i64 (0), .int .i64 (0)] 26)).alloc (.cells #[.int .i64 (0), .int .i64 (0)] 26)) = v6 at *
        have Ck0 := cell_regrown C.c0
        have Ck1 := cell_regrown C.c1
        have Sk0 := cell_regrown S.c0
        have Sk1 := cell_regrown S.c1
        have c1 : ∀ d os, Calls Tryd.prog 24 #[.int .i64 u, spV cl ch] (grow (redrawn v6 d) os) fun e w'' => e = .returned (spV p1 q1) ∧ ∃ p : Regrown, w'' = grow (redrawn v6 p.d) p.os := fun d os => Calls.regrown_of (M1 _)
        have c2 : ∀ d os, Calls Tryd.prog 24 #[.int .i64 r, spV sl sh] (grow (redrawn v6 d) os) fun e w'' => e = .returned (spV p2 q2) ∧ ∃ p : Regrown, w'' = grow (redrawn v6 p.d) p.os := fun d os => Calls.regrown_of (M2 _)
        refine QT.region 8 (by kernel_rfl) (by kernel_rfl) ?_
        simp only [List.take, List.drop]
        repeat (quiet_step (fail))
        quiet_step (exact c1 _ _)
        repeat (quiet_step (fail))
        quiet_step (exact c2 _ _)
        repeat (quiet_step (fail))
        refine wpQuiet_nil ?_
        rintro _ ⟨p', rfl⟩
        have Bx := below_regrown v6 p'.d p'.os
        generalize grow (redrawn v6 p'.d) p'.os = v7 at *
        clear c1 c2 Ck0 Ck1 Sk0 Sk1
        replace R := R.kept Bx
        replace Q := Q.kept Bx
        replace S := S.kept Bx
        replace C := C.kept Bx
        replace U := U.kept Bx
        replace V := V.kept Bx
        replace B := SW.below1 B Bx
        clear Bx
        have ⟨R0, R1, R2, R3⟩ := R
        have ⟨Q0, Q1, Q2, Q3⟩ := Q
        have ⟨S0, S1, S2, S3⟩ := S
        have ⟨C0, C1, C2, C3⟩ := C
        have ⟨U0, U1, U2, U3⟩ := U
        have ⟨V0, V1, V2, V3⟩ := V
        go_wp2_with fail
        clear R0 R1 R2 R3 Q0 Q1 Q2 Q3 S0 S1 S2 S3 C0 C1 C2 C3 U0 U1 U2 U3 V0 V1 V2 V3
        refine (setSum_any _ _ _ p1 q1 p2 q2 _ U (by omega) (by omega) (by omega) (by omega)).mono ?_
        rintro e w' ⟨rfl, rfl⟩
        replace R := (((R.apart (c := (v5.heap.size + 1 + 1)) (o := 0) (by omega) (.int .i64 (p1 + p2))).apart (c := (v5.heap.size + 1 + 1)) (o := 1) (by omega) (.int .i64 (q1 + q2))).alloc (.cells #[.int .i64 p1, .int .i64 q1] 26)).alloc (.cells #[.int .i64 p2, .int .i64 q2] 26)
        replace Q := (((Q.apart (c := (v5.heap.size + 1 + 1)) (o := 0) (by omega) (.int .i64 (p1 + p2))).apart (c := (v5.heap.size + 1 + 1)) (o := 1) (by omega) (.int .i64 (q1 + q2))).alloc (.cells #[.int .i64 p1, .int .i64 q1] 26)).alloc (.cells #[.int .i64 p2, .int .i64 q2] 26)
        replace S := (((S.apart (c := (v5.heap.size + 1 + 1)) (o := 0) (by omega) (.int .i64 (p1 + p2))).apart (c := (v5.heap.size + 1 + 1)) (o := 1) (by omega) (.int .i64 (q1 + q2))).alloc (.cells #[.int .i64 p1, .int .i64 q1] 26)).alloc (.cells #[.int .i64 p2, .int .i64 q2] 26)
        replace C := (((C.apart (c := (v5.heap.size + 1 + 1)) (o := 0) (by omega) (.int .i64 (p1 + p2))).apart (c := (v5.heap.size + 1 + 1)) (o := 1) (by omega) (.int .i64 (q1 + q2))).alloc (.cells #[.int .i64 p1, .int .i64 q1] 26)).alloc (.cells #[.int .i64 p2, .int .i64 q2] 26)
        replace U := ((U.set (p1 + p2) (q1 + q2)).alloc (.cells #[.int .i64 p1, .int .i64 q1] 26)).alloc (.cells #[.int .i64 p2, .int .i64 q2] 26)
        replace V := (((V.apart (c := (v5.heap.size + 1 + 1)) (o := 0) (by omega) (.int .i64 (p1 + p2))).apart (c := (v5.heap.size + 1 + 1)) (o := 1) (by omega) (.int .i64 (q1 + q2))).alloc (.cells #[.int .i64 p1, .int .i64 q1] 26)).alloc (.cells #[.int .i64 p2, .int .i64 q2] 26)
        replace B := SW.below1 (SW.below_set2 B (b := (v5.heap.size + 1 + 1)) (by omega) (.int .i64 (p1 + p2)) (.int .i64 (q1 + q2))) (SW.below_new2 _ (.cells #[.int .i64 p1, .int .i64 q1] 26) (.cells #[.int .i64 p2, .int .i64 q2] 26))
        generalize (((v7.setCell ⟨(v5.heap.size + 1 + 1), 0, none⟩ (.int .i64 (p1 + p2))).setCell ⟨(v5.heap.size + 1 + 1), 1, none⟩ (.int .i64 (q1 + q2))).alloc (.cells #[.int .i64 p1, .int .i64 q1] 26)).alloc (.cells #[.int .i64 p2, .int .i64 q2] 26) = v8 at *
        have ⟨R0, R1, R2, R3⟩ := R
        have ⟨Q0, Q1, Q2, Q3⟩ := Q
        have ⟨S0, S1, S2, S3⟩ := S
        have ⟨C0, C1, C2, C3⟩ := C
        have ⟨U0, U1, U2, U3⟩ := U
        have ⟨V0, V1, V2, V3⟩ := V
        go_wp2_with fail
        clear R0 R1 R2 R3 Q0 Q1 Q2 Q3 S0 S1 S2 S3 C0 C1 C2 C3 U0 U1 U2 U3 V0 V1 V2 V3
        have Ck0 := cell_regrown C.c0
        have Ck1 := cell_regrown C.c1
        have Sk0 := cell_regrown S.c0
        have Sk1 := cell_regrown S.c1
        have c1 : ∀ d os, Calls Tryd.prog 24 #[.int .i64 r, spV cl ch] (grow (redrawn v8 d) os) fun e w'' => e = .returned (spV p3 q3) ∧ ∃ p : Regrown, w'' = grow (redrawn v8 p.d) p.os := fun d os => Calls.regrown_of (M3 _)
        have c2 : ∀ d os, Calls Tryd.prog 24 #[.int .i64 u, spV sl sh] (grow (redrawn v8 d) os) fun e w'' => e = .returned (spV p4 q4) ∧ ∃ p : Regrown, w'' = grow (redrawn v8 p.d) p.os := fun d os => Calls.regrown_of (M4 _)
        refine QT.region 8 (by kernel_rfl) (by kernel_rfl) ?_
        simp only [List.take, List.drop]
        repeat (quiet_step (fail))
        quiet_step (exact c1 _ _)
        repeat (quiet_step (fail))
        quiet_step (exact c2 _ _)
        repeat (quiet_step (fail))
        refine wpQuiet_nil ?_
        rintro _ ⟨p', rfl⟩
        have Bx := below_regrown v8 p'.d p'.os
        generalize grow (redrawn v8 p'.d) p'.os = v9 at *
        clear c1 c2 Ck0 Ck1 Sk0 Sk1
        replace R := R.kept Bx
        replace Q := Q.kept Bx
        replace S := S.kept Bx
        replace C := C.kept Bx
        replace U := U.kept Bx
        replace V := V.kept Bx
        replace B := SW.below1 B Bx
        clear Bx
        have ⟨R0, R1, R2, R3⟩ := R
        have ⟨Q0, Q1, Q2, Q3⟩ := Q
        have ⟨S0, S1, S2, S3⟩ := S
        have ⟨C0, C1, C2, C3⟩ := C
        have ⟨U0, U1, U2, U3⟩ := U
        have ⟨V0, V1, V2, V3⟩ := V
        go_wp2_with fail
        clear R0 R1 R2 R3 Q0 Q1 Q2 Q3 S0 S1 S2 S3 C0 C1 C2 C3 U0 U1 U2 U3 V0 V1 V2 V3
        refine (setDiff_any _ _ _ p3 q3 p4 q4 _ V (by omega) (by omega) (by omega) (by omega)).mono ?_
        rintro e w' ⟨rfl, rfl⟩
        replace R := (((R.apart (c := (v5.heap.size + 1 + 1 + 1)) (o := 0) (by omega) (.int .i64 (p3 - q4))).apart (c := (v5.heap.size + 1 + 1 + 1)) (o := 1) (by omega) (.int .i64 (q3 - p4))).alloc (.cells #[.int .i64 p3, .int .i64 q3] 26)).alloc (.cells #[.int .i64 p4, .int .i64 q4] 26)
        replace Q := (((Q.apart (c := (v5.heap.size + 1 + 1 + 1)) (o := 0) (by omega) (.int .i64 (p3 - q4))).apart (c := (v5.heap.size + 1 + 1 + 1)) (o := 1) (by omega) (.int .i64 (q3 - p4))).alloc (.cells #[.int .i64 p3, .int .i64 q3] 26)).alloc (.cells #[.int .i64 p4, .int .i64 q4] 26)
        replace S := (((S.apart (c := (v5.heap.size + 1 + 1 + 1)) (o := 0) (by omega) (.int .i64 (p3 - q4))).apart (c := (v5.heap.size + 1 + 1 + 1)) (o := 1) (by omega) (.int .i64 (q3 - p4))).alloc (.cells #[.int .i64 p3, .int .i64 q3] 26)).alloc (.cells #[.int .i64 p4, .int .i64 q4] 26)
        replace C := (((C.apart (c := (v5.heap.size + 1 + 1 + 1)) (o := 0) (by omega) (.int .i64 (p3 - q4))).apart (c := (v5.heap.size + 1 + 1 + 1)) (o := 1) (by omega) (.int .i64 (q3 - p4))).alloc (.cells #[.int .i64 p3, .int .i64 q3] 26)).alloc (.cells #[.int .i64 p4, .int .i64 q4] 26)
        replace U := (((U.apart (c := (v5.heap.size + 1 + 1 + 1)) (o := 0) (by omega) (.int .i64 (p3 - q4))).apart (c := (v5.heap.size + 1 + 1 + 1)) (o := 1) (by omega) (.int .i64 (q3 - p4))).alloc (.cells #[.int .i64 p3, .int .i64 q3] 26)).alloc (.cells #[.int .i64 p4, .int .i64 q4] 26)
        replace V := ((V.set (p3 - q4) (q3 - p4)).alloc (.cells #[.int .i64 p3, .int .i64 q3] 26)).alloc (.cells #[.int .i64 p4, .int .i64 q4] 26)
        replace B := SW.below1 (SW.below_set2 B (b := (v5.heap.size + 1 + 1 + 1)) (by omega) (.int .i64 (p3 - q4)) (.int .i64 (q3 - p4))) (SW.below_new2 _ (.cells #[.int .i64 p3, .int .i64 q3] 26) (.cells #[.int .i64 p4, .int .i64 q4] 26))
        generalize (((v9.setCell ⟨(v5.heap.size + 1 + 1 + 1), 0, none⟩ (.int .i64 (p3 - q4))).setCell ⟨(v5.heap.size + 1 + 1 + 1), 1, none⟩ (.int .i64 (q3 - p4))).alloc (.cells #[.int .i64 p3, .int .i64 q3] 26)).alloc (.cells #[.int .i64 p4, .int .i64 q4] 26) = v10 at *
        clear M1 M2 M3 M4 S C
        have ⟨R0, R1, R2, R3⟩ := R
        have ⟨Q0, Q1, Q2, Q3⟩ := Q
        have ⟨U0, U1, U2, U3⟩ := U
        have ⟨V0, V1, V2, V3⟩ := V
        go_wp2_with fail
        go_region
        all_goals go_wp2
        all_goals refine bodyPost_ret (v := .tuple #[.agg #[.int .i64 (p1 + p2), .int .i64 (q1 + q2)], .agg #[.int .i64 (p3 - q4), .int .i64 (q3 - p4)], .bool true]) (by simp [results, Tryd.results7, go_sem, *]) rfl ⟨rfl, ?_⟩
        all_goals exact SW.below_set2 (SW.below_set2 B.drew (by omega) _ _) (by omega) _ _
end SK
end Go.Proofs.YtiidbbnclhknpaaDoor
