/-
  SpanMeet, SpanNeg, SpanAdd, SpanSub: a contract each.
-/
import Derived.Test.YtlkompbigpbefabRows
import Derived.Test.YtlkompbigpbefabSpanMath
import Derived.Test.YtlkompbigpbefabNumWalks
import Derived.Test.YtlkompbigpbefabSpanFits
import Derived.Test.YtlkompbigpbefabQuietTail
import Derived.Test.YtlkompbigpbefabSpanWalks
import Derived.WalkKit
import Derived.Below
import Derived.Lib.MinMax
namespace Go.Proofs.Ytlkompbigpbefab
open Go.RowKit Go.Sort
set_option linter.unusedVariables false
namespace SW
open SM

theorem meet_no {sl sh tl th : Int} (h : bothB sl sh tl th = false) : meetB sl sh tl th = false := by simp [meetB, h]
theorem meet_yes {sl sh tl th : Int} (h : bothB sl sh tl th = true) : meetB sl sh tl th = decide (max sl tl ≤ min sh th) := by simp [meetB, h]
theorem meet_ok {sl sh tl th : Int} (h : bothB sl sh tl th = true) : okS (max sl tl) (min sh th) = meetB sl sh tl th := by
  rw [meet_yes h]
  obtain ⟨h1, h2⟩ := both_of h
  have := okS_of h1
  have := okS_of h2
  exact bool_eq (fun e => decide_eq_true (okS_of e).2.1) (fun e => okS_mk (by have := of_decide_eq_true e; omega))
theorem add_no {sl sh tl th : Int} (h : bothB sl sh tl th = false) : addB sl sh tl th = false := by simp [addB, h]
theorem add_yes {sl sh tl th : Int} (h : bothB sl sh tl th = true) : okS (sl + tl) (sh + th) = addB sl sh tl th := by simp [addB, h]





theorem sSpanNeg_any (l h : Int) (w : World) :
    Calls Try.prog 54 #[spV l h] w fun e w' => e = .returned (spV (sel (okS l h) (-h)) (sel (okS l h) (-l))) ∧ Below w.heap.size w w' := by
  go_enter Try.func54, Try.ntmps54
  go_wp2_with fail
  refine (sSpanOk_any l h _).mono ?_
  rintro e w2 ⟨rfl, B2⟩
  have B := below1 (below_new2 w _ _) B2
  obtain ⟨c0, c1, f0, f1⟩ := ((Box.new w l h 58).alloc _).kept B2
  obtain ⟨d0, d1, g0, g1⟩ := (Box.new2 w _ 0 0 58).kept B2
  clear B2
  cases ho : okS l h
  · go_wp2
    refine bodyPost_ret (v := .agg #[.int .i64 0, .int .i64 0]) (by simp [results, Try.results54, go_sem, *]) rfl ⟨by rw [ho]; rfl, ?_⟩
    exact below_set2 B (by omega) _ _
  · obtain ⟨o1, o2, o3⟩ := okS_of ho
    go_wp2
    refine bodyPost_ret (v := .agg #[.int .i64 (-h), .int .i64 (-l)]) (by simp [results, Try.results54, go_sem, *]) rfl ⟨by rw [ho]; rfl, ?_⟩
    exact below_set2 B (by omega) _ _



theorem sSpanAdd_any (sl sh tl th : Int) (w : World) :
    Calls Try.prog 57 #[spV sl sh, spV tl th] w fun e w' => e = .returned (.tuple #[spV (sel (addB sl sh tl th) (sl + tl)) (sel (addB sl sh tl th) (sh + th)), .bool (addB sl sh tl th)]) ∧ Below w.heap.size w w' := by
  go_enter Try.func57, Try.ntmps57
  go_wp2_with fail
  refine (sSpanOk_any sl sh _).mono ?_
  rintro e w2 ⟨rfl, B2⟩
  have B := below1 (below_new3 w _ _ _) B2
  have T := (Two.new w sl sh tl th 58).kept B2
  clear B2
  cases ho : okS sl sh
  · obtain ⟨⟨c0, c1, f0, f1⟩, ⟨d0, d1, g0, g1⟩, ⟨e0, e1, i0, i1⟩⟩ := T
    go_wp2
    refine bodyPost_ret (v := .tuple #[.agg #[.int .i64 0, .int .i64 0], .bool false]) (by simp [results, Try.results57, go_sem, *]) rfl ⟨by rw [add_no (both_no1 ho)]; rfl, ?_⟩
    exact below_set2 B (by omega) _ _
  · obtain ⟨d0, d1, g0, g1⟩ := T.t
    go_wp2_with fail
    refine (sSpanOk_any tl th _).mono ?_
    rintro e w3 ⟨rfl, B3⟩
    replace B := below1 B B3
    replace T := T.kept B3
    clear B3 d0 d1 g0 g1
    obtain ⟨⟨c0, c1, f0, f1⟩, ⟨d0, d1, g0, g1⟩, R⟩ := T
    cases hp : okS tl th
    · obtain ⟨e0, e1, i0, i1⟩ := R
      go_wp2
      refine bodyPost_ret (v := .tuple #[.agg #[.int .i64 0, .int .i64 0], .bool false]) (by simp [results, Try.results57, go_sem, *]) rfl ⟨by rw [add_no (both_no2 hp)]; rfl, ?_⟩
      exact below_set2 B (by omega) _ _
    · have hb : bothB sl sh tl th = true := both_mk ho hp
      obtain ⟨o1, o2, o3⟩ := okS_of ho
      obtain ⟨p1, p2, p3⟩ := okS_of hp
      go_wp2_with fail
      refine (l2Fit_any _ _ _).mono ?_
      rintro e w4 ⟨rfl, B4⟩
      obtain ⟨e0, e1, i0, i1⟩ := R.kept B4
      replace B := below1 B B4
      rw [add_yes hb]
      clear B4
      go_wp2
      refine bodyPost_ret (v := .tuple #[.agg #[.int .i64 (sel (addB sl sh tl th) (sl + tl)), .int .i64 (sel (addB sl sh tl th) (sh + th))], .bool (addB sl sh tl th)]) (by simp [results, Try.results57, go_sem, *]) rfl ⟨rfl, ?_⟩
      exact below_set2 B (by omega) _ _

theorem sub_no {sl sh tl th : Int} (h : okS tl th = false) : addB sl sh (-th) (-tl) = false := by
  have h := not_okS h
  exact add_no (both_no2 (okS_no (by omega)))
theorem wrap_neg_no {tl th : Int} (h : okS tl th = false) (t1 : -9223372036854775808 ≤ tl) (t2 : tl ≤ 9223372036854775807) (t3 : -9223372036854775808 ≤ th) (t4 : th ≤ 9223372036854775807) : okS (wrap64 (-th)) (wrap64 (-tl)) = false := by
  have h := not_okS h
  apply okS_no
  unfold wrap64
  omega


theorem sSpanSub_any (sl sh tl th : Int) (w : World) (t1 : -9223372036854775808 ≤ tl) (t2 : tl ≤ 9223372036854775807) (t3 : -9223372036854775808 ≤ th) (t4 : th ≤ 9223372036854775807) :
    Calls Try.prog 58 #[spV sl sh, spV tl th] w fun e w' => e = .returned (.tuple #[spV (sel (addB sl sh (-th) (-tl)) (sl + -th)) (sel (addB sl sh (-th) (-tl)) (sh + -tl)), .bool (addB sl sh (-th) (-tl))]) ∧ Below w.heap.size w w' := by
  cases ho : okS tl th
  · have E1 : Hid (addB sl sh (-th) (-tl) = false) := sub_no ho
    have E2 : Hid (addB sl sh (wrap64 (-th)) (wrap64 (-tl)) = false) := add_no (both_no2 (wrap_neg_no ho t1 t2 t3 t4))
    clear t1 t2 t3 t4
    go_enter Try.func58, Try.ntmps58
    go_wp2_with fail
    refine (sSpanAdd_any sl sh _ _ _).mono ?_
    rintro e w2 ⟨rfl, B2⟩
    have B := below1 (below_new3 w _ _ _) B2
    obtain ⟨e0, e1, i0, i1⟩ := ((Two.new w sl sh tl th 58).kept B2).r
    rw [E2.out]
    clear B2
    go_wp2
    refine bodyPost_ret (v := .tuple #[.agg #[.int .i64 0, .int .i64 0], .bool false]) (by simp [results, Try.results58, go_sem, sel_f, *]) rfl ⟨by rw [E1.out]; rfl, ?_⟩
    exact below_set2 B (by omega) _ _
  · obtain ⟨p1, p2, p3⟩ := okS_of ho
    go_enter Try.func58, Try.ntmps58
    go_wp2_with fail
    refine (sSpanAdd_any sl sh (-th) (-tl) _).mono ?_
    rintro e w2 ⟨rfl, B2⟩
    have B := below1 (below_new3 w _ _ _) B2
    obtain ⟨e0, e1, i0, i1⟩ := ((Two.new w sl sh tl th 58).kept B2).r
    clear B2
    go_wp2
    refine bodyPost_ret (v := .tuple #[.agg #[.int .i64 (sel (addB sl sh (-th) (-tl)) (sl + -th)), .int .i64 (sel (addB sl sh (-th) (-tl)) (sh + -tl))], .bool (addB sl sh (-th) (-tl))]) (by simp [results, Try.results58, go_sem, *]) rfl ⟨rfl, ?_⟩
    exact below_set2 B (by omega) _ _

end SW
end Go.Proofs.Ytlkompbigpbefab
