/-
  What the draws of spans return: numbers that are not great, whatever the code.
-/
import Derived.Test.YtldogjldnckdmaeDoorRows
import Derived.Test.YtldogjldnckdmaeDoorDrawKit
import Derived.Test.YtldogjldnckdmaeDoorDrawWalks
import Derived.Test.YtldogjldnckdmaeDoorDrawBig
import Derived.Test.YtldogjldnckdmaeDoorDrawSpan
import Derived.Test.YtldogjldnckdmaeDoorSpanWalks
import Derived.WalkKit
import Derived.Below
import Derived.Lib.MinMax
namespace Go.Proofs.YtldogjldnckdmaeDoor
open Go.RowKit
set_option linter.unusedVariables false

namespace DW
open DK SW

/-- While a span is drawn: the reader, the place of the answer, the span so far. -/
structure St (w : World) (k b : Nat) (lo hi : Int) (p : Nat) (w' : World) : Prop where
  rd : Rd w' k p
  tc : Tch k w.heap.size w w'
  an : Box w' w.heap.size 0 0
  sp : Box w' b lo hi
  hk : k < w.heap.size
  hb : w.heap.size < b
theorem St.ne {w w' : World} {k b p : Nat} {lo hi : Int} (s : St w k b lo hi p w') : ¬ b = w.heap.size := by have := s.hb; omega
theorem St.ne' {w w' : World} {k b p : Nat} {lo hi : Int} (s : St w k b lo hi p w') : ¬ w.heap.size = b := by have := s.hb; omega
theorem St.pick {w w' w'' : World} {k b p p' : Nat} {lo hi : Int} (s : St w k b lo hi p w') (R : Rd w'' k p') (T : Tch k w'.heap.size w' w'') : St w k b lo hi p' w'' :=
  ⟨R, s.tc.trans (T.mono s.tc.size), Box.tch s.an T s.an.lt (by have := s.hk; omega), Box.tch s.sp T s.sp.lt (by have := s.hk; have := s.hb; omega), s.hk, s.hb⟩
theorem St.high {w w' : World} {k b p : Nat} {lo hi : Int} (s : St w k b lo hi p w') (h' : Int) : St w k b lo h' p (w'.setCell ⟨b, 1, none⟩ (.int .i64 h')) := by
  obtain ⟨c0, c1, f0, f1⟩ := s.sp
  have := s.hk
  have := s.hb
  exact ⟨Rd.setHi s.rd (by omega), Tch.setHi s.tc (by omega), s.an.apart (by omega) _, ⟨by simp [go_sem, *], by simp [go_sem, *], by simp [go_sem, *], by simp [go_sem, *]⟩, s.hk, s.hb⟩
theorem St.low {w w' : World} {k b p : Nat} {lo hi : Int} (s : St w k b lo hi p w') (l' : Int) : St w k b l' hi p (w'.setCell ⟨b, 0, none⟩ (.int .i64 l')) := by
  obtain ⟨c0, c1, f0, f1⟩ := s.sp
  have := s.hk
  have := s.hb
  exact ⟨Rd.setHi s.rd (by omega), Tch.setHi s.tc (by omega), s.an.apart (by omega) _, ⟨by simp [go_sem, *], by simp [go_sem, *], by simp [go_sem, *], by simp [go_sem, *]⟩, s.hk, s.hb⟩
theorem St.new {w wv : World} {k p : Nat} (R : Rd wv k p) (T : Tch k w.heap.size w wv) (X : Box wv w.heap.size 0 0) (hk : k < w.heap.size) (lo hi : Int) (t : TypeId) : St w k wv.heap.size lo hi p (wv.alloc (.cells #[.int .i64 lo, .int .i64 hi] t)) :=
  ⟨R.alloc _, T.alloc T.size _, X.alloc _, Box.new wv lo hi t, hk, X.lt⟩
theorem St.fin {w w' : World} {k b p : Nat} {lo hi : Int} (s : St w k b lo hi p w') (u v : Value) : Rd ((w'.setCell ⟨w.heap.size, 0, none⟩ u).setCell ⟨w.heap.size, 1, none⟩ v) k p ∧ Tch k w.heap.size w ((w'.setCell ⟨w.heap.size, 0, none⟩ u).setCell ⟨w.heap.size, 1, none⟩ v) :=
  ⟨Rd.setHi (Rd.setHi s.rd s.hk) s.hk, Tch.setHi (Tch.setHi s.tc (Nat.le_refl _)) (Nat.le_refl _)⟩

set_option maxHeartbeats 4000000 in
theorem l71Span_any (w : World) (k p : Nat) (hp : p ≤ 800000000) (h : Rd w k p) :
    Calls Tryd.prog 29 #[.pointer (some ⟨k, 0, none⟩)] w fun e w' => ∃ l h : Int, ∃ p' : Nat, e = .returned (spV l h) ∧ -1073000500 ≤ l ∧ l ≤ 1073000500 ∧ -1073000500 ≤ h ∧ h ≤ 1073000500 ∧ p' ≤ p + 100 ∧ Rd w' k p' ∧ Tch k w.heap.size w w' := by
  have hk := h.lt
  go_enter Tryd.func29, Tryd.ntmps29
  go_wp2_with fail
  refine (l71Big_any _ k p _ (by omega) (h.alloc _) (by omega) (by omega)).mono ?_
  rintro e w1 ⟨x, p1, rfl, x0, x1, q1, R1, T1⟩
  have X1 := Box.tch (Box.new w 0 0 24) T1 (by simp) (by omega)
  have S1 : Tch k w.heap.size w w1 := ((Tch.refl k w.heap.size w).alloc (Nat.le_refl _) _).trans (T1.mono (by simp))
  clear T1 h
  go_wp2_with fail
  refine (l71Big_any _ k p1 _ (by omega) R1 (by omega) (by omega)).mono ?_
  rintro e w2 ⟨y, p2, rfl, y0, y1, q2, R2, T2⟩
  have X2 := Box.tch X1 T2 X1.lt (by omega)
  have S2 := S1.trans (T2.mono S1.size)
  clear T2 R1 X1 S1
  go_wp2_with fail
  refine (pick_any _ k p2 _ (by omega) R2).mono ?_
  rintro e w3 ⟨v, rfl, v0, v1, R3, T3⟩
  replace v1 := v1 (by omega)
  have X3 := Box.tch X2 T3 X2.lt (by omega)
  have S3 := S2.trans (T3.mono S2.size)
  clear T3 R2 X2 S2
  rcases (show v = 0 ∨ v = 1 ∨ v = 2 ∨ 3 ≤ v by omega) with rfl | rfl | rfl | v2
  · have s0 := St.new R3 S3 X3 hk (x) (x) 24
    go_wp2_with fail
    refine (pick_any _ k _ _ (by omega) s0.rd).mono ?_
    rintro e w6 ⟨t, rfl, t0, t1, R6, T6⟩
    replace t1 := t1 (by omega)
    have s6 := s0.pick R6 T6
    have hn := s6.ne
    have hn' := s6.ne'
    clear R6 T6 s0 R3 S3 X3
    obtain ⟨a0, a1, a2, a3⟩ := s6.an
    obtain ⟨b0, b1, b2, b3⟩ := s6.sp
    rcases (show t = 0 ∨ t = 1 ∨ 2 ≤ t by omega) with rfl | rfl | t2
    · have s7 := s6.high (x - 1)
      cases c : (x - 1 == (1073000001 : Int))
      · go_wp2
        refine bodyPost_ret (v := .agg #[.int .i64 (x), .int .i64 (x - 1)]) (by simp [results, Tryd.results29, go_sem, *]) rfl ⟨_, _, _, rfl, by omega, by omega, by omega, by omega, by omega, (s7.fin _ _).1, (s7.fin _ _).2⟩
      · go_wp2_with fail
        refine (pick_any _ k _ _ (by omega) s7.rd).mono ?_
        rintro e w8 ⟨m, rfl, m0, m1, R8, T8⟩
        replace m1 := m1 (by omega)
        have s8 := s7.pick R8 T8
        clear R8 T8 a0 a1 a2 a3 b0 b1 b2 b3
        obtain ⟨a0, a1, a2, a3⟩ := s8.an
        obtain ⟨b0, b1, b2, b3⟩ := s8.sp
        rcases (show m = 0 ∨ m = 1 by omega) with rfl | rfl
        · go_wp2
          refine bodyPost_ret (v := .agg #[.int .i64 (x), .int .i64 (1073000000)]) (by simp [results, Tryd.results29, go_sem, *]) rfl ⟨_, _, _, rfl, by omega, by omega, by omega, by omega, by omega, ((s8.high 1073000000).fin _ _).1, ((s8.high 1073000000).fin _ _).2⟩
        · go_wp2
          refine bodyPost_ret (v := .agg #[.int .i64 (x), .int .i64 (x - 1)]) (by simp [results, Tryd.results29, go_sem, *]) rfl ⟨_, _, _, rfl, by omega, by omega, by omega, by omega, by omega, (s8.fin _ _).1, (s8.fin _ _).2⟩
    · have s7 := s6.high 1073000001
      go_wp2_with fail
      refine (pick_any _ k _ _ (by omega) s7.rd).mono ?_
      rintro e w8 ⟨m, rfl, m0, m1, R8, T8⟩
      replace m1 := m1 (by omega)
      have s8 := s7.pick R8 T8
      clear R8 T8 a0 a1 a2 a3 b0 b1 b2 b3
      obtain ⟨a0, a1, a2, a3⟩ := s8.an
      obtain ⟨b0, b1, b2, b3⟩ := s8.sp
      rcases (show m = 0 ∨ m = 1 by omega) with rfl | rfl
      · go_wp2
        refine bodyPost_ret (v := .agg #[.int .i64 (x), .int .i64 (1073000000)]) (by simp [results, Tryd.results29, go_sem, *]) rfl ⟨_, _, _, rfl, by omega, by omega, by omega, by omega, by omega, ((s8.high 1073000000).fin _ _).1, ((s8.high 1073000000).fin _ _).2⟩
      · go_wp2
        refine bodyPost_ret (v := .agg #[.int .i64 (x), .int .i64 (1073000001)]) (by simp [results, Tryd.results29, go_sem, *]) rfl ⟨_, _, _, rfl, by omega, by omega, by omega, by omega, by omega, (s8.fin _ _).1, (s8.fin _ _).2⟩
    · have g0 : (t == 0) = false := by simp; omega
      have g1 : (t == 1) = false := by simp; omega
      cases c : (x == (1073000001 : Int))
      · go_wp2
        refine bodyPost_ret (v := .agg #[.int .i64 (x), .int .i64 (x)]) (by simp [results, Tryd.results29, go_sem, *]) rfl ⟨_, _, _, rfl, by omega, by omega, by omega, by omega, by omega, (s6.fin _ _).1, (s6.fin _ _).2⟩
      · go_wp2_with fail
        refine (pick_any _ k _ _ (by omega) s6.rd).mono ?_
        rintro e w8 ⟨m, rfl, m0, m1, R8, T8⟩
        replace m1 := m1 (by omega)
        have s8 := s6.pick R8 T8
        clear R8 T8 a0 a1 a2 a3 b0 b1 b2 b3
        obtain ⟨a0, a1, a2, a3⟩ := s8.an
        obtain ⟨b0, b1, b2, b3⟩ := s8.sp
        rcases (show m = 0 ∨ m = 1 by omega) with rfl | rfl
        · go_wp2
          refine bodyPost_ret (v := .agg #[.int .i64 (x), .int .i64 (1073000000)]) (by simp [results, Tryd.results29, go_sem, *]) rfl ⟨_, _, _, rfl, by omega, by omega, by omega, by omega, by omega, ((s8.high 1073000000).fin _ _).1, ((s8.high 1073000000).fin _ _).2⟩
        · go_wp2
          refine bodyPost_ret (v := .agg #[.int .i64 (x), .int .i64 (x)]) (by simp [results, Tryd.results29, go_sem, *]) rfl ⟨_, _, _, rfl, by omega, by omega, by omega, by omega, by omega, (s8.fin _ _).1, (s8.fin _ _).2⟩
  · go_wp2_with fail
    refine (pick_any _ k _ _ (by omega) R3).mono ?_
    rintro e w4 ⟨u, rfl, u0, u1, R4, T4⟩
    replace u1 := u1 (by omega)
    have X4 := Box.tch X3 T4 X3.lt (by omega)
    have S4 := S3.trans (T4.mono S3.size)
    clear T4 R3 X3 S3
    have s0 := St.new R4 S4 X4 hk (min x (x + u)) (max x (x + u)) 24
    go_wp2_with fail
    refine (pick_any _ k _ _ (by omega) s0.rd).mono ?_
    rintro e w6 ⟨t, rfl, t0, t1, R6, T6⟩
    replace t1 := t1 (by omega)
    have s6 := s0.pick R6 T6
    have hn := s6.ne
    have hn' := s6.ne'
    clear R6 T6 s0 R4 S4 X4
    obtain ⟨a0, a1, a2, a3⟩ := s6.an
    obtain ⟨b0, b1, b2, b3⟩ := s6.sp
    rcases (show t = 0 ∨ t = 1 ∨ 2 ≤ t by omega) with rfl | rfl | t2
    · have s7 := s6.high (min x (x + u) - 1)
      cases c : (min x (x + u) - 1 == (1073000001 : Int))
      · go_wp2
        refine bodyPost_ret (v := .agg #[.int .i64 (min x (x + u)), .int .i64 (min x (x + u) - 1)]) (by simp [results, Tryd.results29, go_sem, *]) rfl ⟨_, _, _, rfl, by omega, by omega, by omega, by omega, by omega, (s7.fin _ _).1, (s7.fin _ _).2⟩
      · go_wp2_with fail
        refine (pick_any _ k _ _ (by omega) s7.rd).mono ?_
        rintro e w8 ⟨m, rfl, m0, m1, R8, T8⟩
        replace m1 := m1 (by omega)
        have s8 := s7.pick R8 T8
        clear R8 T8 a0 a1 a2 a3 b0 b1 b2 b3
        obtain ⟨a0, a1, a2, a3⟩ := s8.an
        obtain ⟨b0, b1, b2, b3⟩ := s8.sp
        rcases (show m = 0 ∨ m = 1 by omega) with rfl | rfl
        · go_wp2
          refine bodyPost_ret (v := .agg #[.int .i64 (min x (x + u)), .int .i64 (1073000000)]) (by simp [results, Tryd.results29, go_sem, *]) rfl ⟨_, _, _, rfl, by omega, by omega, by omega, by omega, by omega, ((s8.high 1073000000).fin _ _).1, ((s8.high 1073000000).fin _ _).2⟩
        · go_wp2
          refine bodyPost_ret (v := .agg #[.int .i64 (min x (x + u)), .int .i64 (min x (x + u) - 1)]) (by simp [results, Tryd.results29, go_sem, *]) rfl ⟨_, _, _, rfl, by omega, by omega, by omega, by omega, by omega, (s8.fin _ _).1, (s8.fin _ _).2⟩
    · have s7 := s6.high 1073000001
      go_wp2_with fail
      refine (pick_any _ k _ _ (by omega) s7.rd).mono ?_
      rintro e w8 ⟨m, rfl, m0, m1, R8, T8⟩
      replace m1 := m1 (by omega)
      have s8 := s7.pick R8 T8
      clear R8 T8 a0 a1 a2 a3 b0 b1 b2 b3
      obtain ⟨a0, a1, a2, a3⟩ := s8.an
      obtain ⟨b0, b1, b2, b3⟩ := s8.sp
      rcases (show m = 0 ∨ m = 1 by omega) with rfl | rfl
      · go_wp2
        refine bodyPost_ret (v := .agg #[.int .i64 (min x (x + u)), .int .i64 (1073000000)]) (by simp [results, Tryd.results29, go_sem, *]) rfl ⟨_, _, _, rfl, by omega, by omega, by omega, by omega, by omega, ((s8.high 1073000000).fin _ _).1, ((s8.high 1073000000).fin _ _).2⟩
      · go_wp2
        refine bodyPost_ret (v := .agg #[.int .i64 (min x (x + u)), .int .i64 (1073000001)]) (by simp [results, Tryd.results29, go_sem, *]) rfl ⟨_, _, _, rfl, by omega, by omega, by omega, by omega, by omega, (s8.fin _ _).1, (s8.fin _ _).2⟩
    · have g0 : (t == 0) = false := by simp; omega
      have g1 : (t == 1) = false := by simp; omega
      cases c : (max x (x + u) == (1073000001 : Int))
      · go_wp2
        refine bodyPost_ret (v := .agg #[.int .i64 (min x (x + u)), .int .i64 (max x (x + u))]) (by simp [results, Tryd.results29, go_sem, *]) rfl ⟨_, _, _, rfl, by omega, by omega, by omega, by omega, by omega, (s6.fin _ _).1, (s6.fin _ _).2⟩
      · go_wp2_with fail
        refine (pick_any _ k _ _ (by omega) s6.rd).mono ?_
        rintro e w8 ⟨m, rfl, m0, m1, R8, T8⟩
        replace m1 := m1 (by omega)
        have s8 := s6.pick R8 T8
        clear R8 T8 a0 a1 a2 a3 b0 b1 b2 b3
        obtain ⟨a0, a1, a2, a3⟩ := s8.an
        obtain ⟨b0, b1, b2, b3⟩ := s8.sp
        rcases (show m = 0 ∨ m = 1 by omega) with rfl | rfl
        · go_wp2
          refine bodyPost_ret (v := .agg #[.int .i64 (min x (x + u)), .int .i64 (1073000000)]) (by simp [results, Tryd.results29, go_sem, *]) rfl ⟨_, _, _, rfl, by omega, by omega, by omega, by omega, by omega, ((s8.high 1073000000).fin _ _).1, ((s8.high 1073000000).fin _ _).2⟩
        · go_wp2
          refine bodyPost_ret (v := .agg #[.int .i64 (min x (x + u)), .int .i64 (max x (x + u))]) (by simp [results, Tryd.results29, go_sem, *]) rfl ⟨_, _, _, rfl, by omega, by omega, by omega, by omega, by omega, (s8.fin _ _).1, (s8.fin _ _).2⟩
  · go_wp2_with fail
    refine (pick_any _ k _ _ (by omega) R3).mono ?_
    rintro e w4 ⟨u, rfl, u0, u1, R4, T4⟩
    replace u1 := u1 (by omega)
    have X4 := Box.tch X3 T4 X3.lt (by omega)
    have S4 := S3.trans (T4.mono S3.size)
    clear T4 R3 X3 S3
    have s0 := St.new R4 S4 X4 hk (min x (x + u)) (max x (x + u)) 24
    go_wp2_with fail
    refine (pick_any _ k _ _ (by omega) s0.rd).mono ?_
    rintro e w6 ⟨t, rfl, t0, t1, R6, T6⟩
    replace t1 := t1 (by omega)
    have s6 := s0.pick R6 T6
    have hn := s6.ne
    have hn' := s6.ne'
    clear R6 T6 s0 R4 S4 X4
    obtain ⟨a0, a1, a2, a3⟩ := s6.an
    obtain ⟨b0, b1, b2, b3⟩ := s6.sp
    rcases (show t = 0 ∨ t = 1 ∨ 2 ≤ t by omega) with rfl | rfl | t2
    · have s7 := s6.high (min x (x + u) - 1)
      cases c : (min x (x + u) - 1 == (1073000001 : Int))
      · go_wp2
        refine bodyPost_ret (v := .agg #[.int .i64 (min x (x + u)), .int .i64 (min x (x + u) - 1)]) (by simp [results, Tryd.results29, go_sem, *]) rfl ⟨_, _, _, rfl, by omega, by omega, by omega, by omega, by omega, (s7.fin _ _).1, (s7.fin _ _).2⟩
      · go_wp2_with fail
        refine (pick_any _ k _ _ (by omega) s7.rd).mono ?_
        rintro e w8 ⟨m, rfl, m0, m1, R8, T8⟩
        replace m1 := m1 (by omega)
        have s8 := s7.pick R8 T8
        clear R8 T8 a0 a1 a2 a3 b0 b1 b2 b3
        obtain ⟨a0, a1, a2, a3⟩ := s8.an
        obtain ⟨b0, b1, b2, b3⟩ := s8.sp
        rcases (show m = 0 ∨ m = 1 by omega) with rfl | rfl
        · go_wp2
          refine bodyPost_ret (v := .agg #[.int .i64 (min x (x + u)), .int .i64 (1073000000)]) (by simp [results, Tryd.results29, go_sem, *]) rfl ⟨_, _, _, rfl, by omega, by omega, by omega, by omega, by omega, ((s8.high 1073000000).fin _ _).1, ((s8.high 1073000000).fin _ _).2⟩
        · go_wp2
          refine bodyPost_ret (v := .agg #[.int .i64 (min x (x + u)), .int .i64 (min x (x + u) - 1)]) (by simp [results, Tryd.results29, go_sem, *]) rfl ⟨_, _, _, rfl, by omega, by omega, by omega, by omega, by omega, (s8.fin _ _).1, (s8.fin _ _).2⟩
    · have s7 := s6.high 1073000001
      go_wp2_with fail
      refine (pick_any _ k _ _ (by omega) s7.rd).mono ?_
      rintro e w8 ⟨m, rfl, m0, m1, R8, T8⟩
      replace m1 := m1 (by omega)
      have s8 := s7.pick R8 T8
      clear R8 T8 a0 a1 a2 a3 b0 b1 b2 b3
      obtain ⟨a0, a1, a2, a3⟩ := s8.an
      obtain ⟨b0, b1, b2, b3⟩ := s8.sp
      rcases (show m = 0 ∨ m = 1 by omega) with rfl | rfl
      · go_wp2
        refine bodyPost_ret (v := .agg #[.int .i64 (min x (x + u)), .int .i64 (1073000000)]) (by simp [results, Tryd.results29, go_sem, *]) rfl ⟨_, _, _, rfl, by omega, by omega, by omega, by omega, by omega, ((s8.high 1073000000).fin _ _).1, ((s8.high 1073000000).fin _ _).2⟩
      · go_wp2
        refine bodyPost_ret (v := .agg #[.int .i64 (min x (x + u)), .int .i64 (1073000001)]) (by simp [results, Tryd.results29, go_sem, *]) rfl ⟨_, _, _, rfl, by omega, by omega, by omega, by omega, by omega, (s8.fin _ _).1, (s8.fin _ _).2⟩
    · have g0 : (t == 0) = false := by simp; omega
      have g1 : (t == 1) = false := by simp; omega
      cases c : (max x (x + u) == (1073000001 : Int))
      · go_wp2
        refine bodyPost_ret (v := .agg #[.int .i64 (min x (x + u)), .int .i64 (max x (x + u))]) (by simp [results, Tryd.results29, go_sem, *]) rfl ⟨_, _, _, rfl, by omega, by omega, by omega, by omega, by omega, (s6.fin _ _).1, (s6.fin _ _).2⟩
      · go_wp2_with fail
        refine (pick_any _ k _ _ (by omega) s6.rd).mono ?_
        rintro e w8 ⟨m, rfl, m0, m1, R8, T8⟩
        replace m1 := m1 (by omega)
        have s8 := s6.pick R8 T8
        clear R8 T8 a0 a1 a2 a3 b0 b1 b2 b3
        obtain ⟨a0, a1, a2, a3⟩ := s8.an
        obtain ⟨b0, b1, b2, b3⟩ := s8.sp
        rcases (show m = 0 ∨ m = 1 by omega) with rfl | rfl
        · go_wp2
          refine bodyPost_ret (v := .agg #[.int .i64 (min x (x + u)), .int .i64 (1073000000)]) (by simp [results, Tryd.results29, go_sem, *]) rfl ⟨_, _, _, rfl, by omega, by omega, by omega, by omega, by omega, ((s8.high 1073000000).fin _ _).1, ((s8.high 1073000000).fin _ _).2⟩
        · go_wp2
          refine bodyPost_ret (v := .agg #[.int .i64 (min x (x + u)), .int .i64 (max x (x + u))]) (by simp [results, Tryd.results29, go_sem, *]) rfl ⟨_, _, _, rfl, by omega, by omega, by omega, by omega, by omega, (s8.fin _ _).1, (s8.fin _ _).2⟩
  · have g0 : (v == 0) = false := by simp; omega
    have g1 : (v == 1) = false := by simp; omega
    have g2 : (v == 2) = false := by simp; omega
    have s0 := St.new R3 S3 X3 hk (min x y) (max x y) 24
    go_wp2_with fail
    refine (pick_any _ k _ _ (by omega) s0.rd).mono ?_
    rintro e w6 ⟨t, rfl, t0, t1, R6, T6⟩
    replace t1 := t1 (by omega)
    have s6 := s0.pick R6 T6
    have hn := s6.ne
    have hn' := s6.ne'
    clear R6 T6 s0 R3 S3 X3
    obtain ⟨a0, a1, a2, a3⟩ := s6.an
    obtain ⟨b0, b1, b2, b3⟩ := s6.sp
    rcases (show t = 0 ∨ t = 1 ∨ 2 ≤ t by omega) with rfl | rfl | t2
    · have s7 := s6.high (min x y - 1)
      cases c : (min x y - 1 == (1073000001 : Int))
      · go_wp2
        refine bodyPost_ret (v := .agg #[.int .i64 (min x y), .int .i64 (min x y - 1)]) (by simp [results, Tryd.results29, go_sem, *]) rfl ⟨_, _, _, rfl, by omega, by omega, by omega, by omega, by omega, (s7.fin _ _).1, (s7.fin _ _).2⟩
      · go_wp2_with fail
        refine (pick_any _ k _ _ (by omega) s7.rd).mono ?_
        rintro e w8 ⟨m, rfl, m0, m1, R8, T8⟩
        replace m1 := m1 (by omega)
        have s8 := s7.pick R8 T8
        clear R8 T8 a0 a1 a2 a3 b0 b1 b2 b3
        obtain ⟨a0, a1, a2, a3⟩ := s8.an
        obtain ⟨b0, b1, b2, b3⟩ := s8.sp
        rcases (show m = 0 ∨ m = 1 by omega) with rfl | rfl
        · go_wp2
          refine bodyPost_ret (v := .agg #[.int .i64 (min x y), .int .i64 (1073000000)]) (by simp [results, Tryd.results29, go_sem, *]) rfl ⟨_, _, _, rfl, by omega, by omega, by omega, by omega, by omega, ((s8.high 1073000000).fin _ _).1, ((s8.high 1073000000).fin _ _).2⟩
        · go_wp2
          refine bodyPost_ret (v := .agg #[.int .i64 (min x y), .int .i64 (min x y - 1)]) (by simp [results, Tryd.results29, go_sem, *]) rfl ⟨_, _, _, rfl, by omega, by omega, by omega, by omega, by omega, (s8.fin _ _).1, (s8.fin _ _).2⟩
    · have s7 := s6.high 1073000001
      go_wp2_with fail
      refine (pick_any _ k _ _ (by omega) s7.rd).mono ?_
      rintro e w8 ⟨m, rfl, m0, m1, R8, T8⟩
      replace m1 := m1 (by omega)
      have s8 := s7.pick R8 T8
      clear R8 T8 a0 a1 a2 a3 b0 b1 b2 b3
      obtain ⟨a0, a1, a2, a3⟩ := s8.an
      obtain ⟨b0, b1, b2, b3⟩ := s8.sp
      rcases (show m = 0 ∨ m = 1 by omega) with rfl | rfl
      · go_wp2
        refine bodyPost_ret (v := .agg #[.int .i64 (min x y), .int .i64 (1073000000)]) (by simp [results, Tryd.results29, go_sem, *]) rfl ⟨_, _, _, rfl, by omega, by omega, by omega, by omega, by omega, ((s8.high 1073000000).fin _ _).1, ((s8.high 1073000000).fin _ _).2⟩
      · go_wp2
        refine bodyPost_ret (v := .agg #[.int .i64 (min x y), .int .i64 (1073000001)]) (by simp [results, Tryd.results29, go_sem, *]) rfl ⟨_, _, _, rfl, by omega, by omega, by omega, by omega, by omega, (s8.fin _ _).1, (s8.fin _ _).2⟩
    · have g0 : (t == 0) = false := by simp; omega
      have g1 : (t == 1) = false := by simp; omega
      cases c : (max x y == (1073000001 : Int))
      · go_wp2
        refine bodyPost_ret (v := .agg #[.int .i64 (min x y), .int .i64 (max x y)]) (by simp [results, Tryd.results29, go_sem, *]) rfl ⟨_, _, _, rfl, by omega, by omega, by omega, by omega, by omega, (s6.fin _ _).1, (s6.fin _ _).2⟩
      · go_wp2_with fail
        refine (pick_any _ k _ _ (by omega) s6.rd).mono ?_
        rintro e w8 ⟨m, rfl, m0, m1, R8, T8⟩
        replace m1 := m1 (by omega)
        have s8 := s6.pick R8 T8
        clear R8 T8 a0 a1 a2 a3 b0 b1 b2 b3
        obtain ⟨a0, a1, a2, a3⟩ := s8.an
        obtain ⟨b0, b1, b2, b3⟩ := s8.sp
        rcases (show m = 0 ∨ m = 1 by omega) with rfl | rfl
        · go_wp2
          refine bodyPost_ret (v := .agg #[.int .i64 (min x y), .int .i64 (1073000000)]) (by simp [results, Tryd.results29, go_sem, *]) rfl ⟨_, _, _, rfl, by omega, by omega, by omega, by omega, by omega, ((s8.high 1073000000).fin _ _).1, ((s8.high 1073000000).fin _ _).2⟩
        · go_wp2
          refine bodyPost_ret (v := .agg #[.int .i64 (min x y), .int .i64 (max x y)]) (by simp [results, Tryd.results29, go_sem, *]) rfl ⟨_, _, _, rfl, by omega, by omega, by omega, by omega, by omega, (s8.fin _ _).1, (s8.fin _ _).2⟩

end DW
end Go.Proofs.YtldogjldnckdmaeDoor
