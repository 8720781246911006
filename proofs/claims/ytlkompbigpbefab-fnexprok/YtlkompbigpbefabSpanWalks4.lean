/-
  SpanRoot: a contract each.
-/
import Derived.Test.YtlkompbigpbefabRows
import Derived.Test.YtlkompbigpbefabSpanMath
import Derived.Test.YtlkompbigpbefabNumWalks
import Derived.Test.YtlkompbigpbefabRootWalks
import Derived.Test.YtlkompbigpbefabSpanFits
import Derived.Test.YtlkompbigpbefabQuietTail
import Derived.Test.YtlkompbigpbefabSpanWalks
import Derived.WalkKit
import Derived.Below
import Derived.Lib.MinMax
namespace Go.Proofs.Ytlkompbigpbefab
open Go.RowKit Go.Sort
set_option linter.unusedVariables false
namespace SW
open SM

/-- The root rounded up. -/
def rup (a : Int) : Int := if RM.root a * RM.root a < a then RM.root a + 1 else RM.root a
theorem rup_yes {a : Int} (h : RM.root a * RM.root a < a) : RM.root a + 1 = rup a := by unfold rup; rw [if_pos h]
theorem rup_no {a : Int} (h : ¬ RM.root a * RM.root a < a) : RM.root a = rup a := by unfold rup; rw [if_neg h]
theorem root_no1 {l h : Int} (e : okS l h = false) : rootB l h = false := by simp [rootB, e]
theorem root_no2 {l h : Int} (e : l < 0) : rootB l h = false := by
  unfold rootB
  rw [decide_eq_false (by omega), Bool.and_false]


theorem l2RootUp_any (x : Int) (w : World) (h0 : 0 ≤ x) (h1 : x ≤ 1152921504606846976) :
    Calls Try.prog 86 #[.int .i64 x] w fun e w' => e = .returned (.int .i64 (rup x)) ∧ w' = w := by
  have r0 := RM.root_nonneg x
  have r1 := RM.root_small h0 h1
  have r2 := RM.sq_bd (x := RM.root x) (by omega) (by omega)
  go_enter Try.func86, Try.ntmps86
  go_wp2_with fail
  refine (NW.l1Root_any x _ h0 h1).mono ?_
  rintro e w' ⟨rfl, rfl⟩
  by_cases c : RM.root x * RM.root x < x
  · have H : Hid (RM.root x + 1 = rup x) := rup_yes c
    go_wp2
    go_ret
    exact ⟨NW.ret_int H.out, rfl⟩
  · have H : Hid (RM.root x = rup x) := rup_no c
    go_wp2
    go_ret
    exact ⟨NW.ret_int H.out, rfl⟩


theorem sSpanRoot_any (l h : Int) (w : World) :
    Calls Try.prog 55 #[spV l h] w fun e w' => e = .returned (.tuple #[spV (sel (rootB l h) (rtLo l)) (sel (rootB l h) (rtHi h)), .bool (rootB l h)]) ∧ Below w.heap.size w w' := by
  go_enter Try.func55, Try.ntmps55
  go_wp2_with fail
  refine (sSpanOk_any l h _).mono ?_
  rintro e w2 ⟨rfl, B2⟩
  have B := below1 (below_new2 w _ _) B2
  obtain ⟨c0, c1, f0, f1⟩ := ((Box.new w l h 58).alloc _).kept B2
  have R := (Box.new2 w _ 0 0 58).kept B2
  clear B2
  cases ho : okS l h
  · obtain ⟨d0, d1, g0, g1⟩ := R
    go_wp2
    refine bodyPost_ret (v := .tuple #[.agg #[.int .i64 0, .int .i64 0], .bool false]) (by simp [results, Try.results55, go_sem, *]) rfl ⟨by rw [root_no1 ho]; rfl, ?_⟩
    exact below_set2 B (by omega) _ _
  · obtain ⟨o1, o2, o3⟩ := okS_of ho
    by_cases c : l < 0
    · obtain ⟨d0, d1, g0, g1⟩ := R
      go_wp2
      refine bodyPost_ret (v := .tuple #[.agg #[.int .i64 0, .int .i64 0], .bool false]) (by simp [results, Try.results55, go_sem, *]) rfl ⟨by rw [root_no2 c]; rfl, ?_⟩
      exact below_set2 B (by omega) _ _
    · have H : Hid (rootB l h = true) := root_mk ho (by omega)
      have k0 := cell_regrown c0
      have k1 := cell_regrown c1
      have u1 : IntKind.i64.wrap (l * 1000000000) = l * 1000000000 := wrap_id (by omega) (by omega)
      have u2 : IntKind.i64.wrap (h * 1000000000) = h * 1000000000 := wrap_id (by omega) (by omega)
      have q1 : ∀ d os, Calls Try.prog 85 #[.int .i64 (l * 1000000000)] (grow (redrawn w2 d) os) fun e w'' => e = .returned (.int .i64 (rtLo l)) ∧ ∃ p : Regrown, w'' = grow (redrawn w2 p.d) p.os := fun d os => Calls.regrown_of (same_below (by rw [Int.mul_comm]; exact NW.l1Root_any _ _ (by omega) (by omega)))
      have q2 : ∀ d os, Calls Try.prog 86 #[.int .i64 (h * 1000000000)] (grow (redrawn w2 d) os) fun e w'' => e = .returned (.int .i64 (rtHi h)) ∧ ∃ p : Regrown, w'' = grow (redrawn w2 p.d) p.os := fun d os => Calls.regrown_of (same_below (by rw [Int.mul_comm]; exact l2RootUp_any _ _ (by omega) (by omega)))
      have q3 : ∀ d os, Calls Try.prog 81 #[.int .i64 (rtLo l), .int .i64 (rtHi h)] (grow (redrawn w2 d) os) fun e w'' => e = .returned (.tuple #[spV (rtLo l) (rtHi h), .bool true]) ∧ ∃ p : Regrown, w'' = grow (redrawn w2 p.d) p.os := fun d os => Calls.regrown_of (by have := l2Fit_any (rtLo l) (rtHi h) (grow (redrawn w2 d) os); rw [rt_ok H.out] at this; exact this)
      go_wp2_with fail
      refine QT.region 11 (by kernel_rfl) (by kernel_rfl) ?_
      simp only [List.take, List.drop]
      repeat (quiet_step (first | exact q1 _ _ | exact q2 _ _ | exact q3 _ _))
      refine wpQuiet_nil ?_
      rintro _ ⟨p, rfl⟩
      have B2 := below_regrown w2 p.d p.os
      generalize grow (redrawn w2 p.d) p.os = w3 at *
      obtain ⟨e0, e1, i0, i1⟩ := R.kept B2
      replace B := below1 B B2
      clear B2 q1 q2 q3 k0 k1 c0 c1 u1 u2
      go_wp2
      refine bodyPost_ret (v := .tuple #[.agg #[.int .i64 (rtLo l), .int .i64 (rtHi h)], .bool true]) (by simp [results, Try.results55, go_sem, *]) rfl ⟨by rw [H.out]; rfl, ?_⟩
      exact below_set2 B (by omega) _ _

end SW
end Go.Proofs.Ytlkompbigpbefab
