/-
  What the draws of spans return: numbers that are not great, whatever the code.
-/
import Derived.Test.YtpddpekenccclaeDoorRows
import Derived.Test.YtpddpekenccclaeDoorDrawKit
import Derived.Test.YtpddpekenccclaeDoorDrawWalks
import Derived.Test.YtpddpekenccclaeDoorDrawBig
import Derived.Test.YtpddpekenccclaeDoorDrawSpan
import Derived.Test.YtpddpekenccclaeDoorDrawSpan2
import Derived.Test.YtpddpekenccclaeDoorSpanWalks2
import Derived.Test.YtpddpekenccclaeDoorSpanWalks
import Derived.WalkKit
import Derived.Below
import Derived.Lib.MinMax
namespace Go.Proofs.YtpddpekenccclaeDoor
open Go.RowKit
set_option linter.unusedVariables false

namespace DW
open DK SW








theorem drawSpanRoot_any (w : World) (a : Option Addr) (len cap : Nat) (h : Src w a len cap) :
    Calls Tryd.prog 5 #[.slice a len cap] w fun e w' => ∃ sl sh : Int, e = .returned (spV sl sh) ∧ -1073000500 ≤ sl ∧ sl ≤ 1073000500 ∧ -1073000500 ≤ sh ∧ sh ≤ 1073000500 ∧ Below w.heap.size w w' := by
  go_enter Tryd.func5, Tryd.ntmps5
  go_wp2_with fail
  refine (l6Open_any _ _ _ _ (h.kept (below_new w _))).mono ?_
  rintro e w1 ⟨rfl, R1, B1⟩
  have Y1 := (Box.new w 0 0 24).kept B1
  have B := below1 (below_new w _) B1
  have hk : w.heap.size + 1 ≤ (w.alloc (.cells #[.int .i64 0, .int .i64 0] 24)).heap.size := by simp
  generalize hkk : (w.alloc (.cells #[.int .i64 0, .int .i64 0] 24)).heap.size = k at *
  clear B1 h
  go_wp2_with fail
  refine (l71Span_any _ _ _ (by omega) R1).mono ?_
  rintro e w2 ⟨sl, sh, p2, rfl, l0, l1, h0, h1, q2, R2, T2⟩
  have Y2 := Box.tch Y1 T2 Y1.lt (by omega)
  replace B := B.trans (T2.toBelow B.size (by omega))
  have hk2 := R2.lt
  clear T2 R1 Y1
  have Z := Box.new w2 sl sh 24
  have Y := Y2.alloc (.cells #[.int .i64 sl, .int .i64 sh] 24)
  have B3 := below1 B (below_new w2 (.cells #[.int .i64 sl, .int .i64 sh] 24))
  have hn : ¬ w2.heap.size = w.heap.size := by have := Y2.lt; omega
  by_cases c : sl < 0
  · go_wp2_with fail
    refine (pick_any _ _ _ _ (by omega) (R2.alloc _)).mono ?_
    rintro e w3 ⟨v, rfl, v0, v1, R3, T3⟩
    replace v1 := v1 (by omega)
    have Z3 := Box.tch Z T3 Z.lt (by omega)
    have Y3 := Box.tch Y T3 Y.lt (by have := Y2.lt; omega)
    replace B3 := B3.trans (T3.toBelow B3.size (by omega))
    clear T3 Z Y Y2 B
    rcases (show v = 0 ∨ 0 < v by omega) with rfl | v2
    · obtain ⟨a0, a1, a2, a3⟩ := Y3
      obtain ⟨b0, b1, b2, b3⟩ := Z3
      go_wp2
      refine bodyPost_ret (v := .agg #[.int .i64 sl, .int .i64 sh]) (by simp [results, Tryd.results5, go_sem, *]) rfl ⟨_, _, rfl, by omega, by omega, by omega, by omega, ?_⟩
      exact below_set2 B3 (by omega) _ _
    · obtain ⟨b0, b1, b2, b3⟩ := Z3
      go_wp2_with fail
      refine (sSpanNeg_any sl sh _).mono ?_
      rintro e w4 ⟨rfl, B4⟩
      obtain ⟨a0, a1, a2, a3⟩ := Y3.kept B4
      replace B3 := below1 B3 B4
      clear B4 b0 b1 b2 b3
      have hb1 : -1073000500 ≤ SM.sel (SM.okS sl sh) (-sh) ∧ SM.sel (SM.okS sl sh) (-sh) ≤ 1073000500 := by cases SM.okS sl sh <;> simp only [SM.sel_t, SM.sel_f] <;> omega
      have hb2 : -1073000500 ≤ SM.sel (SM.okS sl sh) (-sl) ∧ SM.sel (SM.okS sl sh) (-sl) ≤ 1073000500 := by cases SM.okS sl sh <;> simp only [SM.sel_t, SM.sel_f] <;> omega
      go_wp2
      refine bodyPost_ret (v := .agg #[.int .i64 (SM.sel (SM.okS sl sh) (-sh)), .int .i64 (SM.sel (SM.okS sl sh) (-sl))]) (by simp [results, Tryd.results5, go_sem, *]) rfl ⟨_, _, rfl, by omega, by omega, by omega, by omega, ?_⟩
      exact below_set2 B3 (by omega) _ _
  · obtain ⟨a0, a1, a2, a3⟩ := Y
    obtain ⟨b0, b1, b2, b3⟩ := Z
    go_wp2
    refine bodyPost_ret (v := .agg #[.int .i64 sl, .int .i64 sh]) (by simp [results, Tryd.results5, go_sem, *]) rfl ⟨_, _, rfl, by omega, by omega, by omega, by omega, ?_⟩
    exact below_set2 B3 (by omega) _ _

end DW
end Go.Proofs.YtpddpekenccclaeDoor
