/-
  SpanMeet, SpanNeg, SpanAdd, SpanSub: a contract each.
-/
import Derived.Test.YtiidbbnclhknpaaDoorRows
import Derived.Test.YtiidbbnclhknpaaDoorSpanMath
import Derived.Test.YtiidbbnclhknpaaDoorNumWalks
import Derived.Test.YtiidbbnclhknpaaDoorSpanFits
import Derived.Test.YtiidbbnclhknpaaDoorQuietTail
import Derived.Test.YtiidbbnclhknpaaDoorSpanWalks
import Derived.WalkKit
import Derived.Below
import Derived.Lib.MinMax
namespace Go.Proofs.YtiidbbnclhknpaaDoor
open Go.RowKit Go.Sort
set_option linter.unusedVariables false
namespace SW
open SM

theorem meet_no {sl sh tl th : Int} (h : bothB sl sh tl th = false) : meetB sl sh tl th = false := by simp [meetB, h]
theorem meet_yes {sl sh tl th : Int} (h : bothB sl sh tl th = true) : meetB sl sh tl th = decide (max sl tl ≤ min sh th) := by simp [meetB, h]
theorem meet_ok {sl sh tl th : Int} (h : bothB sl sh tl th = true) : okS (max sl tl) (min sh th) = meetB sl sh tl th := by
  rw [meet_yes h]
  obtain ⟨h1, h2⟩ := both_of h
  have := okS_of h1
  have := okS_of h2
  exact bool_eq (fun e => decide_eq_true (okS_of e).2.1) (fun e => okS_mk (by have := of_decide_eq_true e; omega))
theorem add_no {sl sh tl th : Int} (h : bothB sl sh tl th = false) : addB sl sh tl th = false := by simp [addB, h]
theorem add_yes {sl sh tl th : Int} (h : bothB sl sh tl th = true) : okS (sl + tl) (sh + th) = addB sl sh tl th := by simp [addB, h]



theorem about_any (l h : Int) (w : World) (h1 : -1073000000 ≤ l) (h2 : l ≤ 1073000000) (h3 : -1073000000 ≤ h) (h4 : h ≤ 1073000000) :
    Calls Tryd.prog 31 #[spV l h] w fun e w' => e = .returned (spV (-h) (-l)) ∧ Below w.heap.size w w' := by
  go_enter Tryd.func31, Tryd.ntmps31
  go_wp2
  refine bodyPost_ret (v := .agg #[.int .i64 (-h), .int .i64 (-l)]) (by simp [results, Tryd.results31, go_sem]) rfl ⟨rfl, ?_⟩
  exact below_new2 w _ _

theorem spanNeg_any (l h : Int) (a : Addr) (w : World) (hs : Sn a w) :
    Calls Tryd.prog 11 #[spV l h] w fun e w' => e = .returned (spV (sel (okS l h) (-h)) (sel (okS l h) (-l))) ∧ Below w.heap.size w w' := by
  go_enter Tryd.func11, Tryd.ntmps11
  go_wp2_with fail
  refine (spanOk_any l h a _ ((hs.alloc _).alloc _)).mono ?_
  rintro e w2 ⟨rfl, B2⟩
  have B := below1 (below_new2 w _ _) B2
  obtain ⟨c0, c1, f0, f1⟩ := ((Box.new w l h 26).alloc _).kept B2
  obtain ⟨d0, d1, g0, g1⟩ := (Box.new2 w _ 0 0 26).kept B2
  clear B2
  cases ho : okS l h
  · go_wp2
    refine bodyPost_ret (v := .agg #[.int .i64 0, .int .i64 0]) (by simp [results, Tryd.results11, go_sem, *]) rfl ⟨by rw [ho]; rfl, ?_⟩
    exact below_set2 B (by omega) _ _
  · obtain ⟨o1, o2, o3⟩ := okS_of ho
    go_wp2_with fail
    refine (about_any l h _ (by omega) (by omega) (by omega) (by omega)).mono ?_
    rintro e w4 ⟨rfl, B4⟩
    obtain ⟨e0, e1, i0, i1⟩ := (show Box w2 (w.heap.size + 1) 0 0 from ⟨d0, d1, g0, g1⟩).kept B4
    replace B := below1 B B4
    clear B4 d0 d1 g0 g1
    go_wp2
    refine bodyPost_ret (v := .agg #[.int .i64 (-h), .int .i64 (-l)]) (by simp [results, Tryd.results11, go_sem, *]) rfl ⟨by rw [ho]; rfl, ?_⟩
    exact below_set2 B (by omega) _ _

theorem sSpanNeg_any (l h : Int) (w : World) :
    Calls Tryd.prog 35 #[spV l h] w fun e w' => e = .returned (spV (sel (okS l h) (-h)) (sel (okS l h) (-l))) ∧ Below w.heap.size w w' := by
  go_enter Tryd.func35, Tryd.ntmps35
  go_wp2_with fail
  refine (sSpanOk_any l h _).mono ?_
  rintro e w2 ⟨rfl, B2⟩
  have B := below1 (below_new2 w _ _) B2
  obtain ⟨c0, c1, f0, f1⟩ := ((Box.new w l h 26).alloc _).kept B2
  obtain ⟨d0, d1, g0, g1⟩ := (Box.new2 w _ 0 0 26).kept B2
  clear B2
  cases ho : okS l h
  · go_wp2
    refine bodyPost_ret (v := .agg #[.int .i64 0, .int .i64 0]) (by simp [results, Tryd.results35, go_sem, *]) rfl ⟨by rw [ho]; rfl, ?_⟩
    exact below_set2 B (by omega) _ _
  · obtain ⟨o1, o2, o3⟩ := okS_of ho
    go_wp2
    refine bodyPost_ret (v := .agg #[.int .i64 (-h), .int .i64 (-l)]) (by simp [results, Tryd.results35, go_sem, *]) rfl ⟨by rw [ho]; rfl, ?_⟩
    exact below_set2 B (by omega) _ _




theorem sub_no {sl sh tl th : Int} (h : okS tl th = false) : addB sl sh (-th) (-tl) = false := by
  have h := not_okS h
  exact add_no (both_no2 (okS_no (by omega)))
theorem wrap_neg_no {tl th : Int} (h : okS tl th = false) (t1 : -9223372036854775808 ≤ tl) (t2 : tl ≤ 9223372036854775807) (t3 : -9223372036854775808 ≤ th) (t4 : th ≤ 9223372036854775807) : okS (wrap64 (-th)) (wrap64 (-tl)) = false := by
  have h := not_okS h
  apply okS_no
  unfold wrap64
  omega



end SW
end Go.Proofs.YtiidbbnclhknpaaDoor
