/-
  Ways that are turned: what the specification's TurnBy returns.
-/
import Derived.Test.YtiidbbnclhknpaaDoorTurnMath
import Derived.Test.YtiidbbnclhknpaaDoorTurnRoot
import Derived.Test.YtiidbbnclhknpaaDoorSineWalks2
import Derived.Test.YtiidbbnclhknpaaDoorSpanWalks3
import Derived.Test.YtiidbbnclhknpaaDoorLoose2
namespace Go.Proofs.YtiidbbnclhknpaaDoor
open Go.RowKit Go.Sort
set_option linter.unusedVariables false
namespace SK
/-- A way and an angle that are ok. -/
def trB (u r a : Int) : Bool := SW.wayB u r && okA a
theorem tr_no1 {u r a : Int} (h : SW.wayB u r = false) : trB u r a = false := by unfold trB; rw [h]; rfl
theorem tr_no2 {u r a : Int} (h : okA a = false) : trB u r a = false := by unfold trB; rw [h, Bool.and_false]
theorem tr_mk {u r a : Int} (h : SW.wayB u r = true) (k : okA a = true) : trB u r a = true := by unfold trB; rw [h, k]; rfl
theorem tr_of {u r a : Int} (h : trB u r a = true) : SW.wayB u r = true ∧ okA a = true := by
  unfold trB at h
  rwa [Bool.and_eq_true] at h
theorem mulB_half {u h : Int} (u0 : -500000000 ≤ u) (u1 : u ≤ 500000000) : SM.mulB u u (SI.siL h) (SI.siH h) = true := by
  have m := SI.mul_half u0 u1 (SI.si_enc h).2
  obtain ⟨f1, f2, f3, _⟩ := (SI.si_enc h).2
  unfold SM.mulB
  rw [SM.both_mk (SM.okS_mk (by omega)) (SM.okS_mk (by omega)), SM.okS_mk (by omega)]
  rfl
/-- A world in which both answers are being reckoned: in the first one's place lies some span. -/
structure Wt (n0 : Nat) (w0 : World) (y z b1 b2 b3 b4 : Nat) (p1 q1 p2 q2 p3 q3 p4 q4 : Int) where
  w : World
  bw : Below n0 w0 w
  o1 : SW.Box w b1 p1 q1
  o2 : SW.Box w b2 p2 q2
  o3 : SW.Box w b3 p3 q3
  o4 : SW.Box w b4 p4 q4
  z0 : SW.Box w z 0 0
  y0 : ∃ x x', SW.Box w y x x'
abbrev Ct (n0 : Nat) (w0 : World) (y z b1 b2 b3 b4 : Nat) (p1 q1 p2 q2 p3 q3 p4 q4 : Int) : Nat → World → Prop := fun _ w' => ∃ q : Wt n0 w0 y z b1 b2 b3 b4 p1 q1 p2 q2 p3 q3 p4 q4, w' = q.w
def ndT (i : Nat) (y : Nat) (sl sh : Int) : Nat → Option (Act → Value → World → Prop) := fun j => if j = i then some (fun _ _ w => SW.Box w y sl sh) else none
theorem ndT_local {ops : Array Oper} (i y : Nat) (sl sh : Int) : LQ.Local ops (ndT i y sl sh) := by
  intro j Φ oj hn _ a dst v _
  unfold ndT at hn
  split at hn
  · cases hn; rfl
  · cases hn
theorem ndT_keeps {i y : Nat} {sl sh : Int} {w w' : World} (h : SW.Box w' y sl sh) : LQ.Keeps (ndT i y sl sh) w w' := by
  intro j Φ a u hn hu
  unfold ndT at hn
  split at hn
  · cases hn; exact h
  · cases hn
theorem Box.drew' {w : World} {b : Nat} {x y : Int} (h : SW.Box w b x y) : SW.Box { w with drawn := w.drawn + 1 } b x y := ⟨h.c0, h.c1, h.f0, h.f1⟩
theorem store_t {n0 : Nat} {w0 : World} {y z b1 b2 b3 b4 i : Nat} {p1 q1 p2 q2 p3 q3 p4 q4 sl sh x x' : Int} (n1 : y ≠ b1) (n2 : y ≠ b2) (n3 : y ≠ b3) (n4 : y ≠ b4) (n5 : y ≠ z) (hn : n0 ≤ y) (f : Nat) (q : Wt n0 w0 y z b1 b2 b3 b4 p1 q1 p2 q2 p3 q3 p4 q4) (Y : SW.Box q.w y x x') :
    Ct n0 w0 y z b1 b2 b3 b4 p1 q1 p2 q2 p3 q3 p4 q4 f ((q.w.setCell ⟨y, 0, none⟩ (.int .i64 sl)).setCell ⟨y, 1, none⟩ (.int .i64 sh)) ∧ SW.Box ((q.w.setCell ⟨y, 0, none⟩ (.int .i64 sl)).setCell ⟨y, 1, none⟩ (.int .i64 sh)) y sl sh ∧
    LQ.Keeps (ndT i y sl sh) q.w ((q.w.setCell ⟨y, 0, none⟩ (.int .i64 sl)).setCell ⟨y, 1, none⟩ (.int .i64 sh)) := by
  have X := Y.set sl sh
  exact ⟨⟨⟨_, (q.bw.setCell (by simpa using hn) _).setCell (by simpa using hn) _, (q.o1.apart n1 _).apart n1 _, (q.o2.apart n2 _).apart n2 _, (q.o3.apart n3 _).apart n3 _, (q.o4.apart n4 _).apart n4 _, (q.z0.apart n5 _).apart n5 _, sl, sh, X⟩, rfl⟩, X, ndT_keeps X⟩
set_option maxHeartbeats 4000000 in
theorem sTurnBy_any (u r a : Int) (w : World) : Calls Tryd.prog 6 #[.int .i64 u, .int .i64 r, .int .i64 a] w fun e w' => e = .returned (.tuple #[spV (SM.sel (trB u r a) (SI.tyL u r a)) (SM.sel (trB u r a) (SI.tyH u r a)), spV (SM.sel (trB u r a) (SI.txL u r a)) (SM.sel (trB u r a) (SI.txH u r a)), .bool (trB u r a)]) ∧ Below w.heap.size w w' := by
  cases hw : SW.wayB u r
  · have K1 : ∀ w, Calls Tryd.prog 16 #[.int .i64 u, .int .i64 r] w fun e w' => e = .returned (.bool false) ∧ Below w.heap.size w w' := fun w => by have := SW.l22Way_any u r w; rw [hw] at this; exact this.mono fun _ _ ⟨x, y⟩ => ⟨x, y ▸ Below.refl _ _⟩
    rw [tr_no1 hw]
    simp only [SM.sel]
    clear hw
    have R := SW.Box.new w (0) (0) 26
    have B := SW.below_new w (.cells #[.int .i64 (0), .int .i64 (0)] 26)
    replace R := R.alloc (.cells #[.int .i64 (0), .int .i64 (0)] 26)
    have Q : SW.Box ((w.alloc (.cells #[.int .i64 (0), .int .i64 (0)] 26)).alloc (.cells #[.int .i64 (0), .int .i64 (0)] 26)) (w.heap.size + 1) (0) (0) := by simpa using SW.Box.new (w.alloc (.cells #[.int .i64 (0), .int .i64 (0)] 26)) (0) (0) 26
    replace B := SW.below1 B (SW.below_new (w.alloc (.cells #[.int .i64 (0), .int .i64 (0)] 26)) (.cells #[.int .i64 (0), .int .i64 (0)] 26))
    go_enter Tryd.func6, Tryd.ntmps6
    have ⟨R0, R1, R2, R3⟩ := R
    have ⟨Q0, Q1, Q2, Q3⟩ := Q
    go_wp2_with fail
    refine (K1 _).mono ?_
    rintro e v1 ⟨rfl, Bx⟩
    clear R0 R1 R2 R3 Q0 Q1 Q2 Q3
    replace R := R.kept Bx
    replace Q := Q.kept Bx
    replace B := SW.below1 B Bx
    clear Bx
    have ⟨R0, R1, R2, R3⟩ := R
    have ⟨Q0, Q1, Q2, Q3⟩ := Q
    go_wp2
    refine bodyPost_ret (v := .tuple #[.agg #[.int .i64 0, .int .i64 0], .agg #[.int .i64 0, .int .i64 0], .bool false]) (by simp [results, Tryd.results6, go_sem, *]) rfl ⟨rfl, ?_⟩
    exact SW.below_set2 (SW.below_set2 B (by omega) _ _) (by omega) _ _
  · cases ha : okA a
    · have K1 : ∀ w, Calls Tryd.prog 16 #[.int .i64 u, .int .i64 r] w fun e w' => e = .returned (.bool true) ∧ Below w.heap.size w w' := fun w => by have := SW.l22Way_any u r w; rw [hw] at this; exact this.mono fun _ _ ⟨x, y⟩ => ⟨x, y ▸ Below.refl _ _⟩
      have K2 : ∀ w, Calls Tryd.prog 17 #[.int .i64 a] w fun e w' => e = .returned (.bool false) ∧ Below w.heap.size w w' := fun w => by have := l11Ok_any a w; rw [ha] at this; exact this.mono fun _ _ ⟨x, y⟩ => ⟨x, y ▸ Below.refl _ _⟩
      rw [tr_no2 ha]
      simp only [SM.sel]
      clear hw ha
      have R := SW.Box.new w (0) (0) 26
      have B := SW.below_new w (.cells #[.int .i64 (0), .int .i64 (0)] 26)
      replace R := R.alloc (.cells #[.int .i64 (0), .int .i64 (0)] 26)
      have Q : SW.Box ((w.alloc (.cells #[.int .i64 (0), .int .i64 (0)] 26)).alloc (.cells #[.int .i64 (0), .int .i64 (0)] 26)) (w.heap.size + 1) (0) (0) := by simpa using SW.Box.new (w.alloc (.cells #[.int .i64 (0), .int .i64 (0)] 26)) (0) (0) 26
      replace B := SW.below1 B (SW.below_new (w.alloc (.cells #[.int .i64 (0), .int .i64 (0)] 26)) (.cells #[.int .i64 (0), .int .i64 (0)] 26))
      go_enter Tryd.func6, Tryd.ntmps6
      have ⟨R0, R1, R2, R3⟩ := R
      have ⟨Q0, Q1, Q2, Q3⟩ := Q
      go_wp2_with fail
      refine (K1 _).mono ?_
      rintro e v1 ⟨rfl, Bx⟩
      clear R0 R1 R2 R3 Q0 Q1 Q2 Q3
      replace R := R.kept Bx
      replace Q := Q.kept Bx
      replace B := SW.below1 B Bx
      clear Bx
      have ⟨R0, R1, R2, R3⟩ := R
      have ⟨Q0, Q1, Q2, Q3⟩ := Q
      go_wp2_with fail
      refine (K2 _).mono ?_
      rintro e v2 ⟨rfl, Bx⟩
      clear R0 R1 R2 R3 Q0 Q1 Q2 Q3
      replace R := R.kept Bx
      replace Q := Q.kept Bx
      replace B := SW.below1 B Bx
      clear Bx
      have ⟨R0, R1, R2, R3⟩ := R
      have ⟨Q0, Q1, Q2, Q3⟩ := Q
      go_wp2
      refine bodyPost_ret (v := .tuple #[.agg #[.int .i64 0, .int .i64 0], .agg #[.int .i64 0, .int .i64 0], .bool false]) (by simp [results, Tryd.results6, go_sem, *]) rfl ⟨rfl, ?_⟩
      exact SW.below_set2 (SW.below_set2 B (by omega) _ _) (by omega) _ _
    · have K1 : ∀ w, Calls Tryd.prog 16 #[.int .i64 u, .int .i64 r] w fun e w' => e = .returned (.bool true) ∧ Below w.heap.size w w' := fun w => by have := SW.l22Way_any u r w; rw [hw] at this; exact this.mono fun _ _ ⟨x, y⟩ => ⟨x, y ▸ Below.refl _ _⟩
      have K2 : ∀ w, Calls Tryd.prog 17 #[.int .i64 a] w fun e w' => e = .returned (.bool true) ∧ Below w.heap.size w w' := fun w => by have := l11Ok_any a w; rw [ha] at this; exact this.mono fun _ _ ⟨x, y⟩ => ⟨x, y ▸ Below.refl _ _⟩
      rw [tr_mk hw ha]
      simp only [SM.sel]
      obtain ⟨⟨u0, u1⟩, r0, r1⟩ := SW.wayB_of hw
      obtain ⟨a0, a1⟩ := okA_of ha
      obtain ⟨b1, b2, b3⟩ := SI.mul_half u0 u1 (SI.si_enc (2 * a + 64800000)).2
      obtain ⟨b4, b5, b6⟩ := SI.mul_half r0 r1 (SI.si_enc (2 * a)).2
      obtain ⟨b7, b8, b9⟩ := SI.mul_half r0 r1 (SI.si_enc (2 * a + 64800000)).2
      obtain ⟨b10, b11, b12⟩ := SI.mul_half u0 u1 (SI.si_enc (2 * a)).2
      have T1 : ∀ w, Calls Tryd.prog 18 #[.int .i64 (2 * a)] w fun e w' => e = .returned (spV (SI.siL (2 * a)) (SI.siH (2 * a))) ∧ Below w.heap.size w w' := fun w => l12Sine_any (2 * a) w (by omega) (by omega)
      have T2 : ∀ w, Calls Tryd.prog 18 #[.int .i64 (2 * a + 64800000)] w fun e w' => e = .returned (spV (SI.siL (2 * a + 64800000)) (SI.siH (2 * a + 64800000))) ∧ Below w.heap.size w w' := fun w => l12Sine_any (2 * a + 64800000) w (by omega) (by omega)
      have M1 : ∀ w, Calls Tryd.prog 19 #[spV u u, spV (SI.siL (2 * a + 64800000)) (SI.siH (2 * a + 64800000))] w fun e w' => e = .returned (.tuple #[spV (SM.mulLo (u) (u) (SI.siL (2 * a + 64800000)) (SI.siH (2 * a + 64800000))) (SM.mulHi (u) (u) (SI.siL (2 * a + 64800000)) (SI.siH (2 * a + 64800000))), .bool true]) ∧ Below w.heap.size w w' := fun w => by have := SW.sSpanMul_any u u (SI.siL (2 * a + 64800000)) (SI.siH (2 * a + 64800000)) w; rw [mulB_half (by omega) (by omega)] at this; exact this
      have M2 : ∀ w, Calls Tryd.prog 19 #[spV r r, spV (SI.siL (2 * a)) (SI.siH (2 * a))] w fun e w' => e = .returned (.tuple #[spV (SM.mulLo (r) (r) (SI.siL (2 * a)) (SI.siH (2 * a))) (SM.mulHi (r) (r) (SI.siL (2 * a)) (SI.siH (2 * a))), .bool true]) ∧ Below w.heap.size w w' := fun w => by have := SW.sSpanMul_any r r (SI.siL (2 * a)) (SI.siH (2 * a)) w; rw [mulB_half (by omega) (by omega)] at this; exact this
      have M3 : ∀ w, Calls Tryd.prog 19 #[spV r r, spV (SI.siL (2 * a + 64800000)) (SI.siH (2 * a + 64800000))] w fun e w' => e = .returned (.tuple #[spV (SM.mulLo (r) (r) (SI.siL (2 * a + 64800000)) (SI.siH (2 * a + 64800000))) (SM.mulHi (r) (r) (SI.siL (2 * a + 64800000)) (SI.siH (2 * a + 64800000))), .bool true]) ∧ Below w.heap.size w w' := fun w => by have := SW.sSpanMul_any r r (SI.siL (2 * a + 64800000)) (SI.siH (2 * a + 64800000)) w; rw [mulB_half (by omega) (by omega)] at this; exact this
      have M4 : ∀ w, Calls Tryd.prog 19 #[spV u u, spV (SI.siL (2 * a)) (SI.siH (2 * a))] w fun e w' => e = .returned (.tuple #[spV (SM.mulLo (u) (u) (SI.siL (2 * a)) (SI.siH (2 * a))) (SM.mulHi (u) (u) (SI.siL (2 * a)) (SI.siH (2 * a))), .bool true]) ∧ Below w.heap.size w w' := fun w => by have := SW.sSpanMul_any u u (SI.siL (2 * a)) (SI.siH (2 * a)) w; rw [mulB_half (by omega) (by omega)] at this; exact this
      unfold SI.tyL SI.tyH SI.txL SI.txH
      clear hw ha
      generalize SM.mulLo u u (SI.siL (2 * a + 64800000)) (SI.siH (2 * a + 64800000)) = p1 at *
      generalize SM.mulHi u u (SI.siL (2 * a + 64800000)) (SI.siH (2 * a + 64800000)) = q1 at *
      generalize SM.mulLo r r (SI.siL (2 * a)) (SI.siH (2 * a)) = p2 at *
      generalize SM.mulHi r r (SI.siL (2 * a)) (SI.siH (2 * a)) = q2 at *
      generalize SM.mulLo r r (SI.siL (2 * a + 64800000)) (SI.siH (2 * a + 64800000)) = p3 at *
      generalize SM.mulHi r r (SI.siL (2 * a + 64800000)) (SI.siH (2 * a + 64800000)) = q3 at *
      generalize SM.mulLo u u (SI.siL (2 * a)) (SI.siH (2 * a)) = p4 at *
      generalize SM.mulHi u u (SI.siL (2 * a)) (SI.siH (2 * a)) = q4 at *
      generalize SI.siL (2 * a) = sl at *
      generalize SI.siH (2 * a) = sh at *
      generalize SI.siL (2 * a + 64800000) = cl at *
      generalize SI.siH (2 * a + 64800000) = ch at *
      have R := SW.Box.new w (0) (0) 26
      have B := SW.below_new w (.cells #[.int .i64 (0), .int .i64 (0)] 26)
      replace R := R.alloc (.cells #[.int .i64 (0), .int .i64 (0)] 26)
      have Q : SW.Box ((w.alloc (.cells #[.int .i64 (0), .int .i64 (0)] 26)).alloc (.cells #[.int .i64 (0), .int .i64 (0)] 26)) (w.heap.size + 1) (0) (0) := by simpa using SW.Box.new (w.alloc (.cells #[.int .i64 (0), .int .i64 (0)] 26)) (0) (0) 26
      replace B := SW.below1 B (SW.below_new (w.alloc (.cells #[.int .i64 (0), .int .i64 (0)] 26)) (.cells #[.int .i64 (0), .int .i64 (0)] 26))
      go_enter Tryd.func6, Tryd.ntmps6
      have ⟨R0, R1, R2, R3⟩ := R
      have ⟨Q0, Q1, Q2, Q3⟩ := Q
      go_wp2_with fail
      refine (K1 _).mono ?_
      rintro e v1 ⟨rfl, Bx⟩
      clear R0 R1 R2 R3 Q0 Q1 Q2 Q3
      replace R := R.kept Bx
      replace Q := Q.kept Bx
      replace B := SW.below1 B Bx
      clear Bx
      have ⟨R0, R1, R2, R3⟩ := R
      have ⟨Q0, Q1, Q2, Q3⟩ := Q
      go_wp2_with fail
      refine (K2 _).mono ?_
      rintro e v2 ⟨rfl, Bx⟩
      clear R0 R1 R2 R3 Q0 Q1 Q2 Q3
      replace R := R.kept Bx
      replace Q := Q.kept Bx
      replace B := SW.below1 B Bx
      clear Bx
      clear K1 K2
      have ⟨R0, R1, R2, R3⟩ := R
      have ⟨Q0, Q1, Q2, Q3⟩ := Q
      go_wp2_with fail
      refine (T1 _).mono ?_
      rintro e v3 ⟨rfl, Bx⟩
      clear R0 R1 R2 R3 Q0 Q1 Q2 Q3
      replace R := R.kept Bx
      replace Q := Q.kept Bx
      replace B := SW.below1 B Bx
      clear Bx
      replace R := R.alloc (.cells #[.int .i64 (sl), .int .i64 (sh)] 26)
      replace Q := Q.alloc (.cells #[.int .i64 (sl), .int .i64 (sh)] 26)
      have S := SW.Box.new v3 (sl) (sh) 26
      replace B := SW.below1 B (SW.below_new v3 (.cells #[.int .i64 (sl), .int .i64 (sh)] 26))
      have ⟨R0, R1, R2, R3⟩ := R
      have ⟨Q0, Q1, Q2, Q3⟩ := Q
      have ⟨S0, S1, S2, S3⟩ := S
      go_wp2_with fail
      refine (T2 _).mono ?_
      rintro e v4 ⟨rfl, Bx⟩
      clear R0 R1 R2 R3 Q0 Q1 Q2 Q3 S0 S1 S2 S3
      replace R := R.kept Bx
      replace Q := Q.kept Bx
      replace S := S.kept Bx
      replace B := SW.below1 B Bx
      clear Bx
      replace R := R.alloc (.cells #[.int .i64 (cl), .int .i64 (ch)] 26)
      replace Q := Q.alloc (.cells #[.int .i64 (cl), .int .i64 (ch)] 26)
      replace S := S.alloc (.cells #[.int .i64 (cl), .int .i64 (ch)] 26)
      have C := SW.Box.new v4 (cl) (ch) 26
      replace B := SW.below1 B (SW.below_new v4 (.cells #[.int .i64 (cl), .int .i64 (ch)] 26))
      clear T1 T2
      replace R := R.alloc (.cells #[.int .i64 (u), .int .i64 (u)] 26)
      replace Q := Q.alloc (.cells #[.int .i64 (u), .int .i64 (u)] 26)
      replace S := S.alloc (.cells #[.int .i64 (u), .int .i64 (u)] 26)
      replace C := C.alloc (.cells #[.int .i64 (u), .int .i64 (u)] 26)
      have Y : SW.Box ((v4.alloc (.cells #[.int .i64 (cl), .int .i64 (ch)] 26)).alloc (.cells #[.int .i64 (u), .int .i64 (u)] 26)) (v4.heap.size + 1) (u) (u) := by simpa using SW.Box.new (v4.alloc (.cells #[.int .i64 (cl), .int .i64 (ch)] 26)) (u) (u) 26
      replace B := SW.below1 B (SW.below_new (v4.alloc (.cells #[.int .i64 (cl), .int .i64 (ch)] 26)) (.cells #[.int .i64 (u), .int .i64 (u)] 26))
      replace R := R.alloc (.cells #[.int .i64 (r), .int .i64 (r)] 26)
      replace Q := Q.alloc (.cells #[.int .i64 (r), .int .i64 (r)] 26)
      replace S := S.alloc (.cells #[.int .i64 (r), .int .i64 (r)] 26)
      replace C := C.alloc (.cells #[.int .i64 (r), .int .i64 (r)] 26)
      replace Y := Y.alloc (.cells #[.int .i64 (r), .int .i64 (r)] 26)
      have X : SW.Box (((v4.alloc (.cells #[.int .i64 (cl), .int .i64 (ch)] 26)).alloc (.cells #[.int .i64 (u), .int .i64 (u)] 26)).alloc (.cells #[.int .i64 (r), .int .i64 (r)] 26)) (v4.heap.size + 1 + 1) (r) (r) := by simpa using SW.Box.new ((v4.alloc (.cells #[.int .i64 (cl), .int .i64 (ch)] 26)).alloc (.cells #[.int .i64 (u), .int .i64 (u)] 26)) (r) (r) 26
      replace B := SW.below1 B (SW.below_new ((v4.alloc (.cells #[.int .i64 (cl), .int .i64 (ch)] 26)).alloc (.cells #[.int .i64 (u), .int .i64 (u)] 26)) (.cells #[.int .i64 (r), .int .i64 (r)] 26))
      have ⟨R0, R1, R2, R3⟩ := R
      have ⟨Q0, Q1, Q2, Q3⟩ := Q
      have ⟨S0, S1, S2, S3⟩ := S
      have ⟨C0, C1, C2, C3⟩ := C
      have ⟨Y0, Y1, Y2, Y3⟩ := Y
      have ⟨X0, X1, X2, X3⟩ := X
      go_wp2_with fail
      refine (M1 _).mono ?_
      rintro e v5 ⟨rfl, Bx⟩
      clear R0 R1 R2 R3 Q0 Q1 Q2 Q3 S0 S1 S2 S3 C0 C1 C2 C3 Y0 Y1 Y2 Y3 X0 X1 X2 X3
      replace R := R.kept Bx
      replace Q := Q.kept Bx
      replace S := S.kept Bx
      replace C := C.kept Bx
      replace Y := Y.kept Bx
      replace X := X.kept Bx
      replace B := SW.below1 B Bx
      clear Bx
      have lt := Q.lt
      have n1 := R.lt
      replace R := R.alloc (.cells #[.int .i64 (p1), .int .i64 (q1)] 26)
      replace Q := Q.alloc (.cells #[.int .i64 (p1), .int .i64 (q1)] 26)
      replace S := S.alloc (.cells #[.int .i64 (p1), .int .i64 (q1)] 26)
      replace C := C.alloc (.cells #[.int .i64 (p1), .int .i64 (q1)] 26)
      replace Y := Y.alloc (.cells #[.int .i64 (p1), .int .i64 (q1)] 26)
      replace X := X.alloc (.cells #[.int .i64 (p1), .int .i64 (q1)] 26)
      have O1 := SW.Box.new v5 (p1) (q1) 26
      replace B := SW.below1 B (SW.below_new v5 (.cells #[.int .i64 (p1), .int .i64 (q1)] 26))
      have ⟨R0, R1, R2, R3⟩ := R
      have ⟨Q0, Q1, Q2, Q3⟩ := Q
      have ⟨S0, S1, S2, S3⟩ := S
      have ⟨C0, C1, C2, C3⟩ := C
      have ⟨Y0, Y1, Y2, Y3⟩ := Y
      have ⟨X0, X1, X2, X3⟩ := X
      have ⟨O10, O11, O12, O13⟩ := O1
      go_wp2_with fail
      refine (M2 _).mono ?_
      rintro e v6 ⟨rfl, Bx⟩
      clear R0 R1 R2 R3 Q0 Q1 Q2 Q3 S0 S1 S2 S3 C0 C1 C2 C3 Y0 Y1 Y2 Y3 X0 X1 X2 X3 O10 O11 O12 O13
      replace R := R.kept Bx
      replace Q := Q.kept Bx
      replace S := S.kept Bx
      replace C := C.kept Bx
      replace Y := Y.kept Bx
      replace X := X.kept Bx
      replace O1 := O1.kept Bx
      replace B := SW.below1 B Bx
      clear Bx
      have le1 := B.size
      have lu1 := Q.lt
      replace R := R.alloc (.cells #[.int .i64 (p2), .int .i64 (q2)] 26)
      replace Q := Q.alloc (.cells #[.int .i64 (p2), .int .i64 (q2)] 26)
      replace S := S.alloc (.cells #[.int .i64 (p2), .int .i64 (q2)] 26)
      replace C := C.alloc (.cells #[.int .i64 (p2), .int .i64 (q2)] 26)
      replace Y := Y.alloc (.cells #[.int .i64 (p2), .int .i64 (q2)] 26)
      replace X := X.alloc (.cells #[.int .i64 (p2), .int .i64 (q2)] 26)
      replace O1 := O1.alloc (.cells #[.int .i64 (p2), .int .i64 (q2)] 26)
      have O2 := SW.Box.new v6 (p2) (q2) 26
      replace B := SW.below1 B (SW.below_new v6 (.cells #[.int .i64 (p2), .int .i64 (q2)] 26))
      have ⟨R0, R1, R2, R3⟩ := R
      have ⟨Q0, Q1, Q2, Q3⟩ := Q
      have ⟨S0, S1, S2, S3⟩ := S
      have ⟨C0, C1, C2, C3⟩ := C
      have ⟨Y0, Y1, Y2, Y3⟩ := Y
      have ⟨X0, X1, X2, X3⟩ := X
      have ⟨O10, O11, O12, O13⟩ := O1
      have ⟨O20, O21, O22, O23⟩ := O2
      go_wp2_with fail
      refine (M3 _).mono ?_
      rintro e v7 ⟨rfl, Bx⟩
      clear R0 R1 R2 R3 Q0 Q1 Q2 Q3 S0 S1 S2 S3 C0 C1 C2 C3 Y0 Y1 Y2 Y3 X0 X1 X2 X3 O10 O11 O12 O13 O20 O21 O22 O23
      replace R := R.kept Bx
      replace Q := Q.kept Bx
      replace S := S.kept Bx
      replace C := C.kept Bx
      replace Y := Y.kept Bx
      replace X := X.kept Bx
      replace O1 := O1.kept Bx
      replace O2 := O2.kept Bx
      replace B := SW.below1 B Bx
      clear Bx
      have le2 := B.size
      have lu2 := Q.lt
      replace R := R.alloc (.cells #[.int .i64 (p3), .int .i64 (q3)] 26)
      replace Q := Q.alloc (.cells #[.int .i64 (p3), .int .i64 (q3)] 26)
      replace S := S.alloc (.cells #[.int .i64 (p3), .int .i64 (q3)] 26)
      replace C := C.alloc (.cells #[.int .i64 (p3), .int .i64 (q3)] 26)
      replace Y := Y.alloc (.cells #[.int .i64 (p3), .int .i64 (q3)] 26)
      replace X := X.alloc (.cells #[.int .i64 (p3), .int .i64 (q3)] 26)
      replace O1 := O1.alloc (.cells #[.int .i64 (p3), .int .i64 (q3)] 26)
      replace O2 := O2.alloc (.cells #[.int .i64 (p3), .int .i64 (q3)] 26)
      have O3 := SW.Box.new v7 (p3) (q3) 26
      replace B := SW.below1 B (SW.below_new v7 (.cells #[.int .i64 (p3), .int .i64 (q3)] 26))
      have ⟨R0, R1, R2, R3⟩ := R
      have ⟨Q0, Q1, Q2, Q3⟩ := Q
      have ⟨S0, S1, S2, S3⟩ := S
      have ⟨C0, C1, C2, C3⟩ := C
      have ⟨Y0, Y1, Y2, Y3⟩ := Y
      have ⟨X0, X1, X2, X3⟩ := X
      have ⟨O10, O11, O12, O13⟩ := O1
      have ⟨O20, O21, O22, O23⟩ := O2
      have ⟨O30, O31, O32, O33⟩ := O3
      go_wp2_with fail
      refine (M4 _).mono ?_
      rintro e v8 ⟨rfl, Bx⟩
      clear R0 R1 R2 R3 Q0 Q1 Q2 Q3 S0 S1 S2 S3 C0 C1 C2 C3 Y0 Y1 Y2 Y3 X0 X1 X2 X3 O10 O11 O12 O13 O20 O21 O22 O23 O30 O31 O32 O33
      replace R := R.kept Bx
      replace Q := Q.kept Bx
      replace S := S.kept Bx
      replace C := C.kept Bx
      replace Y := Y.kept Bx
      replace X := X.kept Bx
      replace O1 := O1.kept Bx
      replace O2 := O2.kept Bx
      replace O3 := O3.kept Bx
      replace B := SW.below1 B Bx
      clear Bx
      have le3 := B.size
      have lu3 := Q.lt
      replace R := R.alloc (.cells #[.int .i64 (p4), .int .i64 (q4)] 26)
      replace Q := Q.alloc (.cells #[.int .i64 (p4), .int .i64 (q4)] 26)
      replace S := S.alloc (.cells #[.int .i64 (p4), .int .i64 (q4)] 26)
      replace C := C.alloc (.cells #[.int .i64 (p4), .int .i64 (q4)] 26)
      replace Y := Y.alloc (.cells #[.int .i64 (p4), .int .i64 (q4)] 26)
      replace X := X.alloc (.cells #[.int .i64 (p4), .int .i64 (q4)] 26)
      replace O1 := O1.alloc (.cells #[.int .i64 (p4), .int .i64 (q4)] 26)
      replace O2 := O2.alloc (.cells #[.int .i64 (p4), .int .i64 (q4)] 26)
      replace O3 := O3.alloc (.cells #[.int .i64 (p4), .int .i64 (q4)] 26)
      have O4 := SW.Box.new v8 (p4) (q4) 26
      replace B := SW.below1 B (SW.below_new v8 (.cells #[.int .i64 (p4), .int .i64 (q4)] 26))
      clear M1 M2 M3 M4 S C Y X
      have ⟨R0, R1, R2, R3⟩ := R
      have ⟨Q0, Q1, Q2, Q3⟩ := Q
      have ⟨O10, O11, O12, O13⟩ := O1
      have ⟨O20, O21, O22, O23⟩ := O2
      have ⟨O30, O31, O32, O33⟩ := O3
      have ⟨O40, O41, O42, O43⟩ := O4
      go_wp2_with fail
      clear R0 R1 R2 R3 Q0 Q1 Q2 Q3 O10 O11 O12 O13 O20 O21 O22 O23 O30 O31 O32 O33 O40 O41 O42 O43
      have k10 : ∀ (q : Wt w.heap.size w w.heap.size (w.heap.size + 1) v5.heap.size v6.heap.size v7.heap.size v8.heap.size p1 q1 p2 q2 p3 q3 p4 q4), q.w.cell? ⟨v5.heap.size, 0, none⟩ = some (.int .i64 p1) := fun q => q.o1.c0
      have k11 : ∀ (q : Wt w.heap.size w w.heap.size (w.heap.size + 1) v5.heap.size v6.heap.size v7.heap.size v8.heap.size p1 q1 p2 q2 p3 q3 p4 q4), q.w.cell? ⟨v5.heap.size, 1, none⟩ = some (.int .i64 q1) := fun q => q.o1.c1
      have k20 : ∀ (q : Wt w.heap.size w w.heap.size (w.heap.size + 1) v5.heap.size v6.heap.size v7.heap.size v8.heap.size p1 q1 p2 q2 p3 q3 p4 q4), q.w.cell? ⟨v6.heap.size, 0, none⟩ = some (.int .i64 p2) := fun q => q.o2.c0
      have k21 : ∀ (q : Wt w.heap.size w w.heap.size (w.heap.size + 1) v5.heap.size v6.heap.size v7.heap.size v8.heap.size p1 q1 p2 q2 p3 q3 p4 q4), q.w.cell? ⟨v6.heap.size, 1, none⟩ = some (.int .i64 q2) := fun q => q.o2.c1
      have k30 : ∀ (q : Wt w.heap.size w w.heap.size (w.heap.size + 1) v5.heap.size v6.heap.size v7.heap.size v8.heap.size p1 q1 p2 q2 p3 q3 p4 q4), q.w.cell? ⟨v7.heap.size, 0, none⟩ = some (.int .i64 p3) := fun q => q.o3.c0
      have k31 : ∀ (q : Wt w.heap.size w w.heap.size (w.heap.size + 1) v5.heap.size v6.heap.size v7.heap.size v8.heap.size p1 q1 p2 q2 p3 q3 p4 q4), q.w.cell? ⟨v7.heap.size, 1, none⟩ = some (.int .i64 q3) := fun q => q.o3.c1
      have k40 : ∀ (q : Wt w.heap.size w w.heap.size (w.heap.size + 1) v5.heap.size v6.heap.size v7.heap.size v8.heap.size p1 q1 p2 q2 p3 q3 p4 q4), q.w.cell? ⟨v8.heap.size, 0, none⟩ = some (.int .i64 p4) := fun q => q.o4.c0
      have k41 : ∀ (q : Wt w.heap.size w w.heap.size (w.heap.size + 1) v5.heap.size v6.heap.size v7.heap.size v8.heap.size p1 q1 p2 q2 p3 q3 p4 q4), q.w.cell? ⟨v8.heap.size, 1, none⟩ = some (.int .i64 q4) := fun q => q.o4.c1
      have x1 : IntKind.i64.wrap (p1 + p2) = p1 + p2 := SK.wrap_id (by omega) (by omega)
      have x2 : IntKind.i64.wrap (q1 + q2) = q1 + q2 := SK.wrap_id (by omega) (by omega)
      have x3 : IntKind.i64.wrap (p3 - q4) = p3 - q4 := SK.wrap_id (by omega) (by omega)
      have x4 : IntKind.i64.wrap (q3 - p4) = q3 - p4 := SK.wrap_id (by omega) (by omega)
      refine LQ.region (Ct w.heap.size w w.heap.size (w.heap.size + 1) v5.heap.size v6.heap.size v7.heap.size v8.heap.size p1 q1 p2 q2 p3 q3 p4 q4) (ndT 22 w.heap.size (p1 + p2) (q1 + q2)) 23 [0, 1, 2, 3, 4, 5, 6, 7, 8, 9, 10, 11, 12, 13, 14, 15, 16, 17, 18, 19, 20, 21, 22] (ndT_local _ _ _ _) (by kernel_rfl) (by kernel_rfl) (fun _ _ h => h) ⟨⟨_, B.drew, Box.drew' O1, Box.drew' O2, Box.drew' O3, Box.drew' O4, Box.drew' Q, 0, 0, Box.drew' R⟩, rfl⟩ ?_
      iterate 22 (refine LQ.stepD rfl rfl (fun N hN => ?_); go_simp; apply Exists.intro; refine ⟨fun _ _ _ => ?_, hN _ _ ?_⟩; exact And.intro rfl rfl; clear hN N)
      refine LQ.stepN rfl rfl (fun N hN => ?_)
      go_simp
      refine ⟨fun f q _ => ?_, fun _ _ => hN _ _ ?_⟩
      · obtain ⟨x, x', X⟩ := q.y0
        have X' := X
        obtain ⟨g0, g1, g2, g3⟩ := X'
        go_simp
        exact store_t (by omega) (by omega) (by omega) (by omega) (by omega) (by omega) f q X
      clear hN N
      refine LQ.lexEnd ?_
      rintro w4 ⟨q, rfl⟩ kn
      have X : SW.Box q.w w.heap.size (p1 + p2) (q1 + q2) := (kn _ (List.mem_cons_self ..)).2
      clear kn k10 k11 k20 k21 k30 k31 k40 k41
      have B4 := q.bw
      obtain ⟨y0, y1, y2, y3⟩ := X
      obtain ⟨x0, x1', x2', x3'⟩ := q.z0
      generalize q.w = w4 at *
      simp only [List.drop]
      go_wp2
      refine bodyPost_ret (v := .tuple #[.agg #[.int .i64 (p1 + p2), .int .i64 (q1 + q2)], .agg #[.int .i64 (p3 - q4), .int .i64 (q3 - p4)], .bool true]) (by simp [results, Tryd.results6, go_sem, *]) rfl ⟨rfl, ?_⟩
      exact SW.below_set2 B4 (by omega) _ _
end SK
end Go.Proofs.YtiidbbnclhknpaaDoor
