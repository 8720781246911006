/-
  What the draws of spans return: numbers that are not great, whatever the code.
-/
import Derived.Test.YtldogjldnckdmaeDoorRows
import Derived.Test.YtldogjldnckdmaeDoorDrawKit
import Derived.Test.YtldogjldnckdmaeDoorDrawWalks
import Derived.Test.YtldogjldnckdmaeDoorDrawBig
import Derived.Test.YtldogjldnckdmaeDoorDrawSpan
import Derived.Test.YtldogjldnckdmaeDoorDrawSpan2
import Derived.Test.YtldogjldnckdmaeDoorSpanWalks2
import Derived.Test.YtldogjldnckdmaeDoorSpanWalks
import Derived.WalkKit
import Derived.Below
import Derived.Lib.MinMax
namespace Go.Proofs.YtldogjldnckdmaeDoor
open Go.RowKit
set_option linter.unusedVariables false

namespace DW
open DK SW

theorem l71Mild_any (w : World) (k p : Nat) (hp : p ≤ 800000000) (h : Rd w k p) :
    Calls Tryd.prog 40 #[.pointer (some ⟨k, 0, none⟩)] w fun e w' => ∃ l h : Int, ∃ p' : Nat, e = .returned (spV l h) ∧ -1073000500 ≤ l ∧ l ≤ 1073000500 ∧ -1073000500 ≤ h ∧ h ≤ 1073000500 ∧ p' ≤ p + 100 ∧ Rd w' k p' ∧ Tch k w.heap.size w w' := by
  have hk := h.lt
  go_enter Tryd.func40, Tryd.ntmps40
  go_wp2_with fail
  refine (l71Big_any _ k p _ (by omega) (h.alloc _) (by omega) (by omega)).mono ?_
  rintro e w1 ⟨x, p1, rfl, x0, x1, q1, R1, T1⟩
  have X1 := Box.tch (Box.new w 0 0 24) T1 (by simp) (by omega)
  have S1 : Tch k w.heap.size w w1 := ((Tch.refl k w.heap.size w).alloc (Nat.le_refl _) _).trans (T1.mono (by simp))
  clear T1 h
  go_wp2_with fail
  refine (pick_any _ k _ _ (by omega) R1).mono ?_
  rintro e w2 ⟨v, rfl, v0, v1, R2, T2⟩
  replace v1 := v1 (by omega)
  have X2 := Box.tch X1 T2 X1.lt (by omega)
  have S2 := S1.trans (T2.mono S1.size)
  clear T2 R1 X1 S1
  go_wp2_with fail
  refine (pick_any _ k _ _ (by omega) R2).mono ?_
  rintro e w3 ⟨u, rfl, u0, u1, R3, T3⟩
  replace u1 := u1 (by omega)
  obtain ⟨a0, a1, a2, a3⟩ := Box.tch X2 T3 X2.lt (by omega)
  have S3 := S2.trans (T3.mono S2.size)
  clear T3 R2 X2 S2
  go_wp2
  refine bodyPost_ret (v := .agg #[.int .i64 x, .int .i64 (x + u)]) (by simp [results, Tryd.results40, go_sem, *]) rfl ⟨_, _, _, rfl, by omega, by omega, by omega, by omega, by omega, Rd.setHi (Rd.setHi R3 hk) hk, Tch.setHi (Tch.setHi S3 (Nat.le_refl _)) (Nat.le_refl _)⟩







theorem drawSpanRoot_any (w : World) (a : Option Addr) (len cap : Nat) (h : Src w a len cap) :
    Calls Tryd.prog 9 #[.slice a len cap] w fun e w' => ∃ sl sh : Int, e = .returned (spV sl sh) ∧ -1073000500 ≤ sl ∧ sl ≤ 1073000500 ∧ -1073000500 ≤ sh ∧ sh ≤ 1073000500 ∧ Below w.heap.size w w' := by
  go_enter Tryd.func9, Tryd.ntmps9
  go_wp2_with fail
  refine (l6Open_any _ _ _ _ (h.kept (below_new w _))).mono ?_
  rintro e w1 ⟨rfl, R1, B1⟩
  have Y1 := (Box.new w 0 0 24).kept B1
  have B := below1 (below_new w _) B1
  have hk : w.heap.size + 1 ≤ (w.alloc (.cells #[.int .i64 0, .int .i64 0] 24)).heap.size := by simp
  generalize hkk : (w.alloc (.cells #[.int .i64 0, .int .i64 0] 24)).heap.size = k at *
  clear B1 h
  go_wp2_with fail
  refine (l71Span_any _ _ _ (by omega) R1).mono ?_
  rintro e w2 ⟨sl, sh, p2, rfl, l0, l1, h0, h1, q2, R2, T2⟩
  have Y2 := Box.tch Y1 T2 Y1.lt (by omega)
  replace B := B.trans (T2.toBelow B.size (by omega))
  have hk2 := R2.lt
  clear T2 R1 Y1
  have Z := Box.new w2 sl sh 24
  have Y := Y2.alloc (.cells #[.int .i64 sl, .int .i64 sh] 24)
  have B3 := below1 B (below_new w2 (.cells #[.int .i64 sl, .int .i64 sh] 24))
  have hn : ¬ w2.heap.size = w.heap.size := by have := Y2.lt; omega
  by_cases c : sl < 0
  · go_wp2_with fail
    refine (pick_any _ _ _ _ (by omega) (R2.alloc _)).mono ?_
    rintro e w3 ⟨v, rfl, v0, v1, R3, T3⟩
    replace v1 := v1 (by omega)
    have Z3 := Box.tch Z T3 Z.lt (by omega)
    have Y3 := Box.tch Y T3 Y.lt (by have := Y2.lt; omega)
    replace B3 := B3.trans (T3.toBelow B3.size (by omega))
    clear T3 Z Y Y2 B
    rcases (show v = 0 ∨ 0 < v by omega) with rfl | v2
    · obtain ⟨a0, a1, a2, a3⟩ := Y3
      obtain ⟨b0, b1, b2, b3⟩ := Z3
      go_wp2
      refine bodyPost_ret (v := .agg #[.int .i64 sl, .int .i64 sh]) (by simp [results, Tryd.results9, go_sem, *]) rfl ⟨_, _, rfl, by omega, by omega, by omega, by omega, ?_⟩
      exact below_set2 B3 (by omega) _ _
    · obtain ⟨b0, b1, b2, b3⟩ := Z3
      go_wp2_with fail
      refine (sSpanNeg_any sl sh _).mono ?_
      rintro e w4 ⟨rfl, B4⟩
      obtain ⟨a0, a1, a2, a3⟩ := Y3.kept B4
      replace B3 := below1 B3 B4
      clear B4 b0 b1 b2 b3
      have hb1 : -1073000500 ≤ SM.sel (SM.okS sl sh) (-sh) ∧ SM.sel (SM.okS sl sh) (-sh) ≤ 1073000500 := by cases SM.okS sl sh <;> simp only [SM.sel_t, SM.sel_f] <;> omega
      have hb2 : -1073000500 ≤ SM.sel (SM.okS sl sh) (-sl) ∧ SM.sel (SM.okS sl sh) (-sl) ≤ 1073000500 := by cases SM.okS sl sh <;> simp only [SM.sel_t, SM.sel_f] <;> omega
      go_wp2
      refine bodyPost_ret (v := .agg #[.int .i64 (SM.sel (SM.okS sl sh) (-sh)), .int .i64 (SM.sel (SM.okS sl sh) (-sl))]) (by simp [results, Tryd.results9, go_sem, *]) rfl ⟨_, _, rfl, by omega, by omega, by omega, by omega, ?_⟩
      exact below_set2 B3 (by omega) _ _
  · obtain ⟨a0, a1, a2, a3⟩ := Y
    obtain ⟨b0, b1, b2, b3⟩ := Z
    go_wp2
    refine bodyPost_ret (v := .agg #[.int .i64 sl, .int .i64 sh]) (by simp [results, Tryd.results9, go_sem, *]) rfl ⟨_, _, rfl, by omega, by omega, by omega, by omega, ?_⟩
    exact below_set2 B3 (by omega) _ _

end DW
end Go.Proofs.YtldogjldnckdmaeDoor
