/-
  SpanMeet, SpanNeg, SpanAdd, SpanSub: a contract each.
-/
import Derived.Test.YtiidbbnclhknpaaRows
import Derived.Test.YtiidbbnclhknpaaSpanMath
import Derived.Test.YtiidbbnclhknpaaNumWalks
import Derived.Test.YtiidbbnclhknpaaSpanFits
import Derived.Test.YtiidbbnclhknpaaQuietTail
import Derived.Test.YtiidbbnclhknpaaSpanWalks
import Derived.WalkKit
import Derived.Below
import Derived.Lib.MinMax
namespace Go.Proofs.Ytiidbbnclhknpaa
open Go.RowKit Go.Sort
set_option linter.unusedVariables false
namespace SW
open SM

theorem meet_no {sl sh tl th : Int} (h : bothB sl sh tl th = false) : meetB sl sh tl th = false := by simp [meetB, h]
theorem meet_yes {sl sh tl th : Int} (h : bothB sl sh tl th = true) : meetB sl sh tl th = decide (max sl tl ≤ min sh th) := by simp [meetB, h]
theorem meet_ok {sl sh tl th : Int} (h : bothB sl sh tl th = true) : okS (max sl tl) (min sh th) = meetB sl sh tl th := by
  rw [meet_yes h]
  obtain ⟨h1, h2⟩ := both_of h
  have := okS_of h1
  have := okS_of h2
  exact bool_eq (fun e => decide_eq_true (okS_of e).2.1) (fun e => okS_mk (by have := of_decide_eq_true e; omega))
theorem add_no {sl sh tl th : Int} (h : bothB sl sh tl th = false) : addB sl sh tl th = false := by simp [addB, h]
theorem add_yes {sl sh tl th : Int} (h : bothB sl sh tl th = true) : okS (sl + tl) (sh + th) = addB sl sh tl th := by simp [addB, h]





theorem sSpanNeg_any (l h : Int) (w : World) :
    Calls Try.prog 36 #[spV l h] w fun e w' => e = .returned (spV (sel (okS l h) (-h)) (sel (okS l h) (-l))) ∧ Below w.heap.size w w' := by
  go_enter Try.func36, Try.ntmps36
  go_wp2_with fail
  refine (sSpanOk_any l h _).mono ?_
  rintro e w2 ⟨rfl, B2⟩
  have B := below1 (below_new2 w _ _) B2
  obtain ⟨c0, c1, f0, f1⟩ := ((Box.new w l h 26).alloc _).kept B2
  obtain ⟨d0, d1, g0, g1⟩ := (Box.new2 w _ 0 0 26).kept B2
  clear B2
  cases ho : okS l h
  · go_wp2
    refine bodyPost_ret (v := .agg #[.int .i64 0, .int .i64 0]) (by simp [results, Try.results36, go_sem, *]) rfl ⟨by rw [ho]; rfl, ?_⟩
    exact below_set2 B (by omega) _ _
  · obtain ⟨o1, o2, o3⟩ := okS_of ho
    go_wp2
    refine bodyPost_ret (v := .agg #[.int .i64 (-h), .int .i64 (-l)]) (by simp [results, Try.results36, go_sem, *]) rfl ⟨by rw [ho]; rfl, ?_⟩
    exact below_set2 B (by omega) _ _




theorem sub_no {sl sh tl th : Int} (h : okS tl th = false) : addB sl sh (-th) (-tl) = false := by
  have h := not_okS h
  exact add_no (both_no2 (okS_no (by omega)))
theorem wrap_neg_no {tl th : Int} (h : okS tl th = false) (t1 : -9223372036854775808 ≤ tl) (t2 : tl ≤ 9223372036854775807) (t3 : -9223372036854775808 ≤ th) (t4 : th ≤ 9223372036854775807) : okS (wrap64 (-th)) (wrap64 (-tl)) = false := by
  have h := not_okS h
  apply okS_no
  unfold wrap64
  omega



end SW
end Go.Proofs.Ytiidbbnclhknpaa
