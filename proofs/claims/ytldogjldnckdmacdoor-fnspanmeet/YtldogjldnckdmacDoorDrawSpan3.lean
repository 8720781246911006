/-
  What the draws of spans return: numbers that are not great, whatever the code.
-/
import Derived.Test.YtldogjldnckdmacDoorRows
import Derived.Test.YtldogjldnckdmacDoorDrawKit
import Derived.Test.YtldogjldnckdmacDoorDrawWalks
import Derived.Test.YtldogjldnckdmacDoorDrawBig
import Derived.Test.YtldogjldnckdmacDoorDrawSpan
import Derived.Test.YtldogjldnckdmacDoorDrawSpan2
import Derived.Test.YtldogjldnckdmacDoorSpanWalks2
import Derived.Test.YtldogjldnckdmacDoorSpanWalks
import Derived.WalkKit
import Derived.Below
import Derived.Lib.MinMax
namespace Go.Proofs.YtldogjldnckdmacDoor
open Go.RowKit
set_option linter.unusedVariables false

namespace DW
open DK SW

theorem l71Mild_any (w : World) (k p : Nat) (hp : p ≤ 800000000) (h : Rd w k p) :
    Calls Tryd.prog 53 #[.pointer (some ⟨k, 0, none⟩)] w fun e w' => ∃ l h : Int, ∃ p' : Nat, e = .returned (spV l h) ∧ -1073000500 ≤ l ∧ l ≤ 1073000500 ∧ -1073000500 ≤ h ∧ h ≤ 1073000500 ∧ p' ≤ p + 100 ∧ Rd w' k p' ∧ Tch k w.heap.size w w' := by
  have hk := h.lt
  go_enter Tryd.func53, Tryd.ntmps53
  go_wp2_with fail
  refine (l71Big_any _ k p _ (by omega) (h.alloc _) (by omega) (by omega)).mono ?_
  rintro e w1 ⟨x, p1, rfl, x0, x1, q1, R1, T1⟩
  have X1 := Box.tch (Box.new w 0 0 24) T1 (by simp) (by omega)
  have S1 : Tch k w.heap.size w w1 := ((Tch.refl k w.heap.size w).alloc (Nat.le_refl _) _).trans (T1.mono (by simp))
  clear T1 h
  go_wp2_with fail
  refine (pick_any _ k _ _ (by omega) R1).mono ?_
  rintro e w2 ⟨v, rfl, v0, v1, R2, T2⟩
  replace v1 := v1 (by omega)
  have X2 := Box.tch X1 T2 X1.lt (by omega)
  have S2 := S1.trans (T2.mono S1.size)
  clear T2 R1 X1 S1
  go_wp2_with fail
  refine (pick_any _ k _ _ (by omega) R2).mono ?_
  rintro e w3 ⟨u, rfl, u0, u1, R3, T3⟩
  replace u1 := u1 (by omega)
  obtain ⟨a0, a1, a2, a3⟩ := Box.tch X2 T3 X2.lt (by omega)
  have S3 := S2.trans (T3.mono S2.size)
  clear T3 R2 X2 S2
  go_wp2
  refine bodyPost_ret (v := .agg #[.int .i64 x, .int .i64 (x + u)]) (by simp [results, Tryd.results53, go_sem, *]) rfl ⟨_, _, _, rfl, by omega, by omega, by omega, by omega, by omega, Rd.setHi (Rd.setHi R3 hk) hk, Tch.setHi (Tch.setHi S3 (Nat.le_refl _)) (Nat.le_refl _)⟩

theorem l71Two_any (w : World) (k p : Nat) (hp : p ≤ 700000000) (h : Rd w k p) :
    Calls Tryd.prog 42 #[.pointer (some ⟨k, 0, none⟩)] w fun e w' => ∃ sl sh tl th : Int, ∃ p' : Nat, e = .returned (.tuple #[spV sl sh, spV tl th]) ∧ -1073000500 ≤ sl ∧ sl ≤ 1073000500 ∧ -1073000500 ≤ sh ∧ sh ≤ 1073000500 ∧ -1073000500 ≤ tl ∧ tl ≤ 1073000500 ∧ -1073000500 ≤ th ∧ th ≤ 1073000500 ∧ p' ≤ p + 300 ∧ Rd w' k p' ∧ Tch k w.heap.size w w' := by
  have hk := h.lt
  go_enter Tryd.func42, Tryd.ntmps42
  go_wp2_with fail
  refine (pick_any _ k p _ (by omega) ((h.alloc _).alloc _)).mono ?_
  rintro e w1 ⟨v, rfl, v0, v1, R1, T1⟩
  replace v1 := v1 (by omega)
  have Y1 := Box.tch ((Box.new w 0 0 24).alloc _) T1 (by simp; omega) (by omega)
  have Z1 := Box.tch (Box.new2 w _ 0 0 24) T1 (by simp) (by omega)
  have S1 : Tch k w.heap.size w w1 := (((Tch.refl k w.heap.size w).alloc (Nat.le_refl _) _).alloc (by simp) _).trans (T1.mono (by simp; omega))
  clear T1 h
  rcases (show v = 0 ∨ 1 ≤ v by omega) with rfl | v2
  · go_wp2_with fail
    refine (l71Span_any _ k _ (by omega) R1).mono ?_
    rintro e w2 ⟨sl, sh, p2, rfl, l0, l1, h0, h1, q2, R2, T2⟩
    have Y2 := Box.tch Y1 T2 Y1.lt (by omega)
    have Z2 := Box.tch Z1 T2 Z1.lt (by omega)
    have S2 := S1.trans (T2.mono S1.size)
    clear T2 R1 Y1 Z1 S1
    go_wp2_with fail
    refine (l71Span_any _ k _ (by omega) R2).mono ?_
    rintro e w3 ⟨tl, th, p3, rfl, m0, m1, n0, n1, q3, R3, T3⟩
    obtain ⟨a0, a1, a2, a3⟩ := Box.tch Y2 T3 Y2.lt (by omega)
    obtain ⟨b0, b1, b2, b3⟩ := Box.tch Z2 T3 Z2.lt (by omega)
    have S3 := S2.trans (T3.mono S2.size)
    clear T3 R2 Y2 Z2 S2
    go_wp2
    refine bodyPost_ret (v := .tuple #[.agg #[.int .i64 sl, .int .i64 sh], .agg #[.int .i64 tl, .int .i64 th]]) (by simp [results, Tryd.results42, go_sem, *]) rfl ⟨_, _, _, _, _, rfl, by omega, by omega, by omega, by omega, by omega, by omega, by omega, by omega, by omega, Rd.setHi (Rd.setHi (Rd.setHi (Rd.setHi R3 hk) hk) (by omega)) (by omega), Tch.setHi (Tch.setHi (Tch.setHi (Tch.setHi S3 (Nat.le_refl _)) (Nat.le_refl _)) (by omega)) (by omega)⟩
  · have g0 : (v == 0) = false := by simp; omega
    go_wp2_with fail
    refine (l71Mild_any _ k _ (by omega) R1).mono ?_
    rintro e w2 ⟨sl, sh, p2, rfl, l0, l1, h0, h1, q2, R2, T2⟩
    have Y2 := Box.tch Y1 T2 Y1.lt (by omega)
    have Z2 := Box.tch Z1 T2 Z1.lt (by omega)
    have S2 := S1.trans (T2.mono S1.size)
    clear T2 R1 Y1 Z1 S1
    go_wp2_with fail
    refine (l71Mild_any _ k _ (by omega) R2).mono ?_
    rintro e w3 ⟨tl, th, p3, rfl, m0, m1, n0, n1, q3, R3, T3⟩
    obtain ⟨a0, a1, a2, a3⟩ := Box.tch Y2 T3 Y2.lt (by omega)
    obtain ⟨b0, b1, b2, b3⟩ := Box.tch Z2 T3 Z2.lt (by omega)
    have S3 := S2.trans (T3.mono S2.size)
    clear T3 R2 Y2 Z2 S2
    go_wp2
    refine bodyPost_ret (v := .tuple #[.agg #[.int .i64 sl, .int .i64 sh], .agg #[.int .i64 tl, .int .i64 th]]) (by simp [results, Tryd.results42, go_sem, *]) rfl ⟨_, _, _, _, _, rfl, by omega, by omega, by omega, by omega, by omega, by omega, by omega, by omega, by omega, Rd.setHi (Rd.setHi (Rd.setHi (Rd.setHi R3 hk) hk) (by omega)) (by omega), Tch.setHi (Tch.setHi (Tch.setHi (Tch.setHi S3 (Nat.le_refl _)) (Nat.le_refl _)) (by omega)) (by omega)⟩

theorem drawSpanAdd_any (w : World) (a : Option Addr) (len cap : Nat) (h : Src w a len cap) :
    Calls Tryd.prog 22 #[.slice a len cap] w fun e w' => ∃ sl sh tl th : Int, e = .returned (.tuple #[spV sl sh, spV tl th]) ∧ -1073000500 ≤ sl ∧ sl ≤ 1073000500 ∧ -1073000500 ≤ sh ∧ sh ≤ 1073000500 ∧ -1073000500 ≤ tl ∧ tl ≤ 1073000500 ∧ -1073000500 ≤ th ∧ th ≤ 1073000500 ∧ Below w.heap.size w w' := by
  go_enter Tryd.func22, Tryd.ntmps22
  go_wp2_with fail
  refine (l6Open_any _ _ _ _ ((h.kept (below_new w _)).kept (below_new _ _))).mono ?_
  rintro e w1 ⟨rfl, R1, B1⟩
  have Y1 := ((Box.new w 0 0 24).alloc _).kept B1
  have Z1 := (Box.new2 w _ 0 0 24).kept B1
  have B := below1 (below_new2 w _ _) B1
  have hk : w.heap.size + 2 ≤ ((w.alloc (.cells #[.int .i64 0, .int .i64 0] 24)).alloc (.cells #[.int .i64 0, .int .i64 0] 24)).heap.size := by simp
  generalize hkk : ((w.alloc (.cells #[.int .i64 0, .int .i64 0] 24)).alloc (.cells #[.int .i64 0, .int .i64 0] 24)).heap.size = k at *
  clear B1 h
  go_wp2_with fail
  refine (l71Two_any _ _ _ (by omega) R1).mono ?_
  rintro e w2 ⟨sl, sh, tl, th, p2, rfl, l0, l1, h0, h1, m0, m1, n0, n1, q2, R2, T2⟩
  obtain ⟨a0, a1, a2, a3⟩ := Box.tch Y1 T2 Y1.lt (by omega)
  obtain ⟨b0, b1, b2, b3⟩ := Box.tch Z1 T2 Z1.lt (by omega)
  replace B := B.trans (T2.toBelow B.size (by omega))
  clear T2 R1 Y1 Z1
  go_wp2
  refine bodyPost_ret (v := .tuple #[.agg #[.int .i64 sl, .int .i64 sh], .agg #[.int .i64 tl, .int .i64 th]]) (by simp [results, Tryd.results22, go_sem, *]) rfl ⟨_, _, _, _, rfl, by omega, by omega, by omega, by omega, by omega, by omega, by omega, by omega, ?_⟩
  exact below_set2 (below_set2 B (by omega) _ _) (by omega) _ _

theorem drawSpanSub_any (w : World) (a : Option Addr) (len cap : Nat) (h : Src w a len cap) :
    Calls Tryd.prog 26 #[.slice a len cap] w fun e w' => ∃ sl sh tl th : Int, e = .returned (.tuple #[spV sl sh, spV tl th]) ∧ -1073000500 ≤ sl ∧ sl ≤ 1073000500 ∧ -1073000500 ≤ sh ∧ sh ≤ 1073000500 ∧ -1073000500 ≤ tl ∧ tl ≤ 1073000500 ∧ -1073000500 ≤ th ∧ th ≤ 1073000500 ∧ Below w.heap.size w w' := by
  go_enter Tryd.func26, Tryd.ntmps26
  go_wp2_with fail
  refine (l6Open_any _ _ _ _ ((h.kept (below_new w _)).kept (below_new _ _))).mono ?_
  rintro e w1 ⟨rfl, R1, B1⟩
  have Y1 := ((Box.new w 0 0 24).alloc _).kept B1
  have Z1 := (Box.new2 w _ 0 0 24).kept B1
  have B := below1 (below_new2 w _ _) B1
  have hk : w.heap.size + 2 ≤ ((w.alloc (.cells #[.int .i64 0, .int .i64 0] 24)).alloc (.cells #[.int .i64 0, .int .i64 0] 24)).heap.size := by simp
  generalize hkk : ((w.alloc (.cells #[.int .i64 0, .int .i64 0] 24)).alloc (.cells #[.int .i64 0, .int .i64 0] 24)).heap.size = k at *
  clear B1 h
  go_wp2_with fail
  refine (l71Two_any _ _ _ (by omega) R1).mono ?_
  rintro e w2 ⟨sl, sh, tl, th, p2, rfl, l0, l1, h0, h1, m0, m1, n0, n1, q2, R2, T2⟩
  obtain ⟨a0, a1, a2, a3⟩ := Box.tch Y1 T2 Y1.lt (by omega)
  obtain ⟨b0, b1, b2, b3⟩ := Box.tch Z1 T2 Z1.lt (by omega)
  replace B := B.trans (T2.toBelow B.size (by omega))
  clear T2 R1 Y1 Z1
  go_wp2
  refine bodyPost_ret (v := .tuple #[.agg #[.int .i64 sl, .int .i64 sh], .agg #[.int .i64 tl, .int .i64 th]]) (by simp [results, Tryd.results26, go_sem, *]) rfl ⟨_, _, _, _, rfl, by omega, by omega, by omega, by omega, by omega, by omega, by omega, by omega, ?_⟩
  exact below_set2 (below_set2 B (by omega) _ _) (by omega) _ _

theorem drawSpanMul_any (w : World) (a : Option Addr) (len cap : Nat) (h : Src w a len cap) :
    Calls Tryd.prog 29 #[.slice a len cap] w fun e w' => ∃ sl sh tl th : Int, e = .returned (.tuple #[spV sl sh, spV tl th]) ∧ -1073000500 ≤ sl ∧ sl ≤ 1073000500 ∧ -1073000500 ≤ sh ∧ sh ≤ 1073000500 ∧ -1073000500 ≤ tl ∧ tl ≤ 1073000500 ∧ -1073000500 ≤ th ∧ th ≤ 1073000500 ∧ Below w.heap.size w w' := by
  go_enter Tryd.func29, Tryd.ntmps29
  go_wp2_with fail
  refine (l6Open_any _ _ _ _ ((h.kept (below_new w _)).kept (below_new _ _))).mono ?_
  rintro e w1 ⟨rfl, R1, B1⟩
  have Y1 := ((Box.new w 0 0 24).alloc _).kept B1
  have Z1 := (Box.new2 w _ 0 0 24).kept B1
  have B := below1 (below_new2 w _ _) B1
  have hk : w.heap.size + 2 ≤ ((w.alloc (.cells #[.int .i64 0, .int .i64 0] 24)).alloc (.cells #[.int .i64 0, .int .i64 0] 24)).heap.size := by simp
  generalize hkk : ((w.alloc (.cells #[.int .i64 0, .int .i64 0] 24)).alloc (.cells #[.int .i64 0, .int .i64 0] 24)).heap.size = k at *
  clear B1 h
  go_wp2_with fail
  refine (l71Two_any _ _ _ (by omega) R1).mono ?_
  rintro e w2 ⟨sl, sh, tl, th, p2, rfl, l0, l1, h0, h1, m0, m1, n0, n1, q2, R2, T2⟩
  obtain ⟨a0, a1, a2, a3⟩ := Box.tch Y1 T2 Y1.lt (by omega)
  obtain ⟨b0, b1, b2, b3⟩ := Box.tch Z1 T2 Z1.lt (by omega)
  replace B := B.trans (T2.toBelow B.size (by omega))
  clear T2 R1 Y1 Z1
  go_wp2
  refine bodyPost_ret (v := .tuple #[.agg #[.int .i64 sl, .int .i64 sh], .agg #[.int .i64 tl, .int .i64 th]]) (by simp [results, Tryd.results29, go_sem, *]) rfl ⟨_, _, _, _, rfl, by omega, by omega, by omega, by omega, by omega, by omega, by omega, by omega, ?_⟩
  exact below_set2 (below_set2 B (by omega) _ _) (by omega) _ _

theorem drawSpanHull_any (w : World) (a : Option Addr) (len cap : Nat) (h : Src w a len cap) :
    Calls Tryd.prog 9 #[.slice a len cap] w fun e w' => ∃ sl sh tl th : Int, e = .returned (.tuple #[spV sl sh, spV tl th]) ∧ -1073000500 ≤ sl ∧ sl ≤ 1073000500 ∧ -1073000500 ≤ sh ∧ sh ≤ 1073000500 ∧ -1073000500 ≤ tl ∧ tl ≤ 1073000500 ∧ -1073000500 ≤ th ∧ th ≤ 1073000500 ∧ Below w.heap.size w w' := by
  go_enter Tryd.func9, Tryd.ntmps9
  go_wp2_with fail
  refine (l6Open_any _ _ _ _ ((h.kept (below_new w _)).kept (below_new _ _))).mono ?_
  rintro e w1 ⟨rfl, R1, B1⟩
  have Y1 := ((Box.new w 0 0 24).alloc _).kept B1
  have Z1 := (Box.new2 w _ 0 0 24).kept B1
  have B := below1 (below_new2 w _ _) B1
  have hk : w.heap.size + 2 ≤ ((w.alloc (.cells #[.int .i64 0, .int .i64 0] 24)).alloc (.cells #[.int .i64 0, .int .i64 0] 24)).heap.size := by simp
  generalize hkk : ((w.alloc (.cells #[.int .i64 0, .int .i64 0] 24)).alloc (.cells #[.int .i64 0, .int .i64 0] 24)).heap.size = k at *
  clear B1 h
  go_wp2_with fail
  refine (l71Span_any _ _ _ (by omega) R1).mono ?_
  rintro e w2 ⟨sl, sh, p2, rfl, l0, l1, h0, h1, q2, R2, T2⟩
  have Y2 := Box.tch Y1 T2 Y1.lt (by omega)
  have Z2 := Box.tch Z1 T2 Z1.lt (by omega)
  replace B := B.trans (T2.toBelow B.size (by omega))
  clear T2 R1 Y1 Z1
  go_wp2_with fail
  refine (l71Span_any _ _ _ (by omega) R2).mono ?_
  rintro e w3 ⟨tl, th, p3, rfl, m0, m1, n0, n1, q3, R3, T3⟩
  obtain ⟨a0, a1, a2, a3⟩ := Box.tch Y2 T3 Y2.lt (by omega)
  obtain ⟨b0, b1, b2, b3⟩ := Box.tch Z2 T3 Z2.lt (by omega)
  replace B := B.trans (T3.toBelow B.size (by omega))
  clear T3 R2 Y2 Z2
  go_wp2
  refine bodyPost_ret (v := .tuple #[.agg #[.int .i64 sl, .int .i64 sh], .agg #[.int .i64 tl, .int .i64 th]]) (by simp [results, Tryd.results9, go_sem, *]) rfl ⟨_, _, _, _, rfl, by omega, by omega, by omega, by omega, by omega, by omega, by omega, by omega, ?_⟩
  exact below_set2 (below_set2 B (by omega) _ _) (by omega) _ _

theorem drawSpanNeg_any (w : World) (a : Option Addr) (len cap : Nat) (h : Src w a len cap) :
    Calls Tryd.prog 19 #[.slice a len cap] w fun e w' => ∃ sl sh : Int, e = .returned (spV sl sh) ∧ -1073000500 ≤ sl ∧ sl ≤ 1073000500 ∧ -1073000500 ≤ sh ∧ sh ≤ 1073000500 ∧ Below w.heap.size w w' := by
  go_enter Tryd.func19, Tryd.ntmps19
  go_wp2_with fail
  refine (l6Open_any _ _ _ _ (h.kept (below_new w _))).mono ?_
  rintro e w1 ⟨rfl, R1, B1⟩
  have Y1 := (Box.new w 0 0 24).kept B1
  have B := below1 (below_new w _) B1
  have hk : w.heap.size + 1 ≤ (w.alloc (.cells #[.int .i64 0, .int .i64 0] 24)).heap.size := by simp
  generalize hkk : (w.alloc (.cells #[.int .i64 0, .int .i64 0] 24)).heap.size = k at *
  clear B1 h
  go_wp2_with fail
  refine (l71Span_any _ _ _ (by omega) R1).mono ?_
  rintro e w2 ⟨sl, sh, p2, rfl, l0, l1, h0, h1, q2, R2, T2⟩
  obtain ⟨a0, a1, a2, a3⟩ := Box.tch Y1 T2 Y1.lt (by omega)
  replace B := B.trans (T2.toBelow B.size (by omega))
  clear T2 R1 Y1
  go_wp2
  refine bodyPost_ret (v := .agg #[.int .i64 sl, .int .i64 sh]) (by simp [results, Tryd.results19, go_sem, *]) rfl ⟨_, _, rfl, by omega, by omega, by omega, by omega, ?_⟩
  exact below_set2 B (by omega) _ _


end DW
end Go.Proofs.YtldogjldnckdmacDoor
