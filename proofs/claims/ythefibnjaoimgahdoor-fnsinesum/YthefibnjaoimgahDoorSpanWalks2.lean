/-
  SpanMeet, SpanNeg, SpanAdd, SpanSub: a contract each.
-/
import Derived.Test.YthefibnjaoimgahDoorRows
import Derived.Test.YthefibnjaoimgahDoorSpanMath
import Derived.Test.YthefibnjaoimgahDoorNumWalks
import Derived.Test.YthefibnjaoimgahDoorSpanFits
import Derived.Test.YthefibnjaoimgahDoorQuietTail
import Derived.Test.YthefibnjaoimgahDoorSpanWalks
import Derived.WalkKit
import Derived.Below
import Derived.Lib.MinMax
namespace Go.Proofs.YthefibnjaoimgahDoor
open Go.RowKit Go.Sort
set_option linter.unusedVariables false
namespace SW
open SM

theorem meet_no {sl sh tl th : Int} (h : bothB sl sh tl th = false) : meetB sl sh tl th = false := by simp [meetB, h]
theorem meet_yes {sl sh tl th : Int} (h : bothB sl sh tl th = true) : meetB sl sh tl th = decide (max sl tl ≤ min sh th) := by simp [meetB, h]
theorem meet_ok {sl sh tl th : Int} (h : bothB sl sh tl th = true) : okS (max sl tl) (min sh th) = meetB sl sh tl th := by
  rw [meet_yes h]
  obtain ⟨h1, h2⟩ := both_of h
  have := okS_of h1
  have := okS_of h2
  exact bool_eq (fun e => decide_eq_true (okS_of e).2.1) (fun e => okS_mk (by have := of_decide_eq_true e; omega))
theorem add_no {sl sh tl th : Int} (h : bothB sl sh tl th = false) : addB sl sh tl th = false := by simp [addB, h]
theorem add_yes {sl sh tl th : Int} (h : bothB sl sh tl th = true) : okS (sl + tl) (sh + th) = addB sl sh tl th := by simp [addB, h]



theorem about_any (l h : Int) (w : World) (h1 : -1073000000 ≤ l) (h2 : l ≤ 1073000000) (h3 : -1073000000 ≤ h) (h4 : h ≤ 1073000000) :
    Calls Tryd.prog 24 #[spV l h] w fun e w' => e = .returned (spV (-h) (-l)) ∧ Below w.heap.size w w' := by
  go_enter Tryd.func24, Tryd.ntmps24
  go_wp2
  refine bodyPost_ret (v := .agg #[.int .i64 (-h), .int .i64 (-l)]) (by simp [results, Tryd.results24, go_sem]) rfl ⟨rfl, ?_⟩
  exact below_new2 w _ _

theorem spanNeg_any (l h : Int) (a : Addr) (w : World) (hs : Sn a w) :
    Calls Tryd.prog 10 #[spV l h] w fun e w' => e = .returned (spV (sel (okS l h) (-h)) (sel (okS l h) (-l))) ∧ Below w.heap.size w w' := by
  go_enter Tryd.func10, Tryd.ntmps10
  go_wp2_with fail
  refine (spanOk_any l h a _ ((hs.alloc _).alloc _)).mono ?_
  rintro e w2 ⟨rfl, B2⟩
  have B := below1 (below_new2 w _ _) B2
  obtain ⟨c0, c1, f0, f1⟩ := ((Box.new w l h 25).alloc _).kept B2
  obtain ⟨d0, d1, g0, g1⟩ := (Box.new2 w _ 0 0 25).kept B2
  clear B2
  cases ho : okS l h
  · go_wp2
    refine bodyPost_ret (v := .agg #[.int .i64 0, .int .i64 0]) (by simp [results, Tryd.results10, go_sem, *]) rfl ⟨by rw [ho]; rfl, ?_⟩
    exact below_set2 B (by omega) _ _
  · obtain ⟨o1, o2, o3⟩ := okS_of ho
    go_wp2_with fail
    refine (about_any l h _ (by omega) (by omega) (by omega) (by omega)).mono ?_
    rintro e w4 ⟨rfl, B4⟩
    obtain ⟨e0, e1, i0, i1⟩ := (show Box w2 (w.heap.size + 1) 0 0 from ⟨d0, d1, g0, g1⟩).kept B4
    replace B := below1 B B4
    clear B4 d0 d1 g0 g1
    go_wp2
    refine bodyPost_ret (v := .agg #[.int .i64 (-h), .int .i64 (-l)]) (by simp [results, Tryd.results10, go_sem, *]) rfl ⟨by rw [ho]; rfl, ?_⟩
    exact below_set2 B (by omega) _ _

theorem sSpanNeg_any (l h : Int) (w : World) :
    Calls Tryd.prog 35 #[spV l h] w fun e w' => e = .returned (spV (sel (okS l h) (-h)) (sel (okS l h) (-l))) ∧ Below w.heap.size w w' := by
  go_enter Tryd.func35, Tryd.ntmps35
  go_wp2_with fail
  refine (sSpanOk_any l h _).mono ?_
  rintro e w2 ⟨rfl, B2⟩
  have B := below1 (below_new2 w _ _) B2
  obtain ⟨c0, c1, f0, f1⟩ := ((Box.new w l h 25).alloc _).kept B2
  obtain ⟨d0, d1, g0, g1⟩ := (Box.new2 w _ 0 0 25).kept B2
  clear B2
  cases ho : okS l h
  · go_wp2
    refine bodyPost_ret (v := .agg #[.int .i64 0, .int .i64 0]) (by simp [results, Tryd.results35, go_sem, *]) rfl ⟨by rw [ho]; rfl, ?_⟩
    exact below_set2 B (by omega) _ _
  · obtain ⟨o1, o2, o3⟩ := okS_of ho
    go_wp2
    refine bodyPost_ret (v := .agg #[.int .i64 (-h), .int .i64 (-l)]) (by simp [results, Tryd.results35, go_sem, *]) rfl ⟨by rw [ho]; rfl, ?_⟩
    exact below_set2 B (by omega) _ _

theorem plus_any (sl sh tl th : Int) (w : World) (o1 : -1073000000 ≤ sl) (o2 : sl ≤ sh) (o3 : sh ≤ 1073000000) (p1 : -1073000000 ≤ tl) (p2 : tl ≤ th) (p3 : th ≤ 1073000000) :
    Calls Tryd.prog 28 #[spV sl sh, spV tl th] w fun e w' => e = .returned (spV (sl + tl) (sh + th)) ∧ Below w.heap.size w w' := by
  go_enter Tryd.func28, Tryd.ntmps28
  go_wp2
  refine bodyPost_ret (v := .agg #[.int .i64 (sl + tl), .int .i64 (sh + th)]) (by simp [results, Tryd.results28, go_sem]) rfl ⟨rfl, ?_⟩
  exact below_new3 w _ _ _

theorem spanAdd_any (sl sh tl th : Int) (a : Addr) (w : World) (hs : Sn a w) :
    Calls Tryd.prog 13 #[spV sl sh, spV tl th] w fun e w' => e = .returned (.tuple #[spV (sel (addB sl sh tl th) (sl + tl)) (sel (addB sl sh tl th) (sh + th)), .bool (addB sl sh tl th)]) ∧ Below w.heap.size w w' := by
  go_enter Tryd.func13, Tryd.ntmps13
  go_wp2_with fail
  refine (spanOk_any sl sh a _ (((hs.alloc _).alloc _).alloc _)).mono ?_
  rintro e w2 ⟨rfl, B2⟩
  have B := below1 (below_new3 w _ _ _) B2
  have hs2 := (((hs.alloc _).alloc _).alloc _).kept B2
  have T := (Two.new w sl sh tl th 25).kept B2
  clear B2
  cases ho : okS sl sh
  · obtain ⟨⟨c0, c1, f0, f1⟩, ⟨d0, d1, g0, g1⟩, ⟨e0, e1, i0, i1⟩⟩ := T
    go_wp2
    refine bodyPost_ret (v := .tuple #[.agg #[.int .i64 0, .int .i64 0], .bool false]) (by simp [results, Tryd.results13, go_sem, *]) rfl ⟨by rw [add_no (both_no1 ho)]; rfl, ?_⟩
    exact below_set2 B (by omega) _ _
  · obtain ⟨d0, d1, g0, g1⟩ := T.t
    go_wp2_with fail
    refine (spanOk_any tl th a _ hs2).mono ?_
    rintro e w3 ⟨rfl, B3⟩
    replace B := below1 B B3
    have hs3 := hs2.kept B3
    replace T := T.kept B3
    clear B3 d0 d1 g0 g1
    obtain ⟨⟨c0, c1, f0, f1⟩, ⟨d0, d1, g0, g1⟩, R⟩ := T
    cases hp : okS tl th
    · obtain ⟨e0, e1, i0, i1⟩ := R
      go_wp2
      refine bodyPost_ret (v := .tuple #[.agg #[.int .i64 0, .int .i64 0], .bool false]) (by simp [results, Tryd.results13, go_sem, *]) rfl ⟨by rw [add_no (both_no2 hp)]; rfl, ?_⟩
      exact below_set2 B (by omega) _ _
    · have hb : bothB sl sh tl th = true := both_mk ho hp
      obtain ⟨o1, o2, o3⟩ := okS_of ho
      obtain ⟨p1, p2, p3⟩ := okS_of hp
      go_wp2_with fail
      refine (plus_any sl sh tl th _ o1 o2 o3 p1 p2 p3).mono ?_
      rintro e w4 ⟨rfl, B4⟩
      have hs4 := hs3.kept B4
      replace R := R.kept B4
      replace B := below1 B B4
      clear B4
      go_wp2_with fail
      refine (told_any _ _ a _ hs4).mono ?_
      rintro e w5 ⟨rfl, B5⟩
      obtain ⟨e0, e1, i0, i1⟩ := R.kept B5
      replace B := below1 B B5
      rw [fit_okS (by omega), add_yes hb]
      clear B5
      go_wp2
      refine bodyPost_ret (v := .tuple #[.agg #[.int .i64 (sel (addB sl sh tl th) (sl + tl)), .int .i64 (sel (addB sl sh tl th) (sh + th))], .bool (addB sl sh tl th)]) (by simp [results, Tryd.results13, go_sem, *]) rfl ⟨rfl, ?_⟩
      exact below_set2 B (by omega) _ _


theorem sub_no {sl sh tl th : Int} (h : okS tl th = false) : addB sl sh (-th) (-tl) = false := by
  have h := not_okS h
  exact add_no (both_no2 (okS_no (by omega)))
theorem wrap_neg_no {tl th : Int} (h : okS tl th = false) (t1 : -9223372036854775808 ≤ tl) (t2 : tl ≤ 9223372036854775807) (t3 : -9223372036854775808 ≤ th) (t4 : th ≤ 9223372036854775807) : okS (wrap64 (-th)) (wrap64 (-tl)) = false := by
  have h := not_okS h
  apply okS_no
  unfold wrap64
  omega



end SW
end Go.Proofs.YthefibnjaoimgahDoor
