/-
  What the functions of chapter 3 answer: SureRound, SureLess, SureSign, the specification's and the program's, at every argument.
-/
import Derived.Test.YtfdkpcejjcifgauDoorRows
import Derived.Test.YtfdkpcejjcifgauDoorNumWalks
import Derived.Test.YtfdkpcejjcifgauDoorSpanFits
import Derived.Test.YtfdkpcejjcifgauDoorSpanWalks
import Derived.Test.YtfdkpcejjcifgauDoorSureMath
import Derived.Test.YtfdkpcejjcifgauDoorKeptStep
import Derived.WalkKit
import Derived.Below
import Derived.Lib.QuietBelow
namespace Go.Proofs.YtfdkpcejjcifgauDoor
open Go.RowKit Go.Sort
set_option linter.unusedVariables false
namespace SW
open SM SR

theorem ret_ib {a b : Int} {c d : Bool} (h : a = b) (g : c = d) : Ending.returned (.tuple #[.int .i64 a, .bool c]) = .returned (.tuple #[.int .i64 b, .bool d]) := by rw [h, g]







theorem belowZero_any (x : Int) (w : World) : Calls Tryd.prog 52 #[.int .i64 x] w fun e w' => e = .returned (.bool (decide (x < 0))) ∧ Below w.heap.size w w' := by
  go_enter Tryd.func52, Tryd.ntmps52
  go_wp2
  go_ret
  exact ⟨rfl, Below.refl _ _⟩
theorem about_s (l h : Int) (w : World) (h1 : -1073000000 ≤ l) (h2 : l ≤ 1073000000) (h3 : -1073000000 ≤ h) (h4 : h ≤ 1073000000) :
    Calls Tryd.prog 51 #[spV l h] w fun e w' => e = .returned (spV (-h) (-l)) ∧ Below w.heap.size w w' := by
  go_enter Tryd.func51, Tryd.ntmps51
  go_wp2
  refine bodyPost_ret (v := .agg #[.int .i64 (-h), .int .i64 (-l)]) (by simp [results, Tryd.results51, go_sem]) rfl ⟨rfl, ?_⟩
  exact below_new2 w _ _
theorem plus_s (sl sh tl th : Int) (w : World) (o1 : -1073000000 ≤ sl) (o2 : sl ≤ sh) (o3 : sh ≤ 1073000000) (p1 : -1073000000 ≤ tl) (p2 : tl ≤ th) (p3 : th ≤ 1073000000) :
    Calls Tryd.prog 42 #[spV sl sh, spV tl th] w fun e w' => e = .returned (spV (sl + tl) (sh + th)) ∧ Below w.heap.size w w' := by
  go_enter Tryd.func42, Tryd.ntmps42
  go_wp2
  refine bodyPost_ret (v := .agg #[.int .i64 (sl + tl), .int .i64 (sh + th)]) (by simp [results, Tryd.results42, go_sem]) rfl ⟨rfl, ?_⟩
  exact below_new3 w _ _ _
theorem sureOf_bool_eq (l h : Int) (x : Bool) (w : World) (c1 : ∀ w', Below w.heap.size w w' → Calls Tryd.prog 52 #[.int .i64 l] w' fun e w'' => e = .returned (.bool x) ∧ Below w'.heap.size w' w'') (c2 : ∀ w', Below w.heap.size w w' → Calls Tryd.prog 52 #[.int .i64 h] w' fun e w'' => e = .returned (.bool x) ∧ Below w'.heap.size w' w'') :
    Calls Tryd.prog 50 #[spV l h, .func (.func 52) #[] #[]] w fun e w' => e = .returned (.tuple #[.bool x, .bool true]) ∧ Below w.heap.size w w' := by
  generalize hw1 : w.alloc (.cells #[.int .i64 l, .int .i64 h] 34) = w1
  have B1 : Below w.heap.size w w1 := hw1 ▸ below_new w _
  have X : Box w1 w.heap.size l h := hw1 ▸ Box.new w l h _
  have k0 := cell_regrown X.c0
  have k1 := cell_regrown X.c1
  have q1 : ∀ d os, Calls Tryd.prog 52 #[.int .i64 l] (grow (redrawn w1 d) os) fun e w'' => e = .returned (.bool x) ∧ ∃ p : Regrown, w'' = grow (redrawn w1 p.d) p.os := fun d os => Calls.regrown_of (c1 _ (below1 B1 (below_regrown w1 d os)))
  have q2 : ∀ d os, Calls Tryd.prog 52 #[.int .i64 h] (grow (redrawn w1 d) os) fun e w'' => e = .returned (.bool x) ∧ ∃ p : Regrown, w'' = grow (redrawn w1 p.d) p.os := fun d os => Calls.regrown_of (c2 _ (below1 B1 (below_regrown w1 d os)))
  go_enter Tryd.func50, Tryd.ntmps50
  go_wp2_with fail
  refine KS.region (by kernel_rfl) (by kernel_rfl) ?_
  repeat (refine KS.step (fun K hK => ?_); go_simp; refine hK _ ?_; clear hK K)
  refine KS.step (fun K hK => ?_)
  go_simp
  apply Exists.intro
  refine ⟨fun _ => ?_, hK _ ?_⟩
  exact q1 _ _
  clear hK K
  repeat (refine KS.step (fun K hK => ?_); go_simp; refine hK _ ?_; clear hK K)
  refine KS.step (fun K hK => ?_)
  go_simp
  apply Exists.intro
  refine ⟨fun _ => ?_, hK _ ?_⟩
  exact q2 _ _
  clear hK K
  repeat (refine KS.step (fun K hK => ?_); go_simp; refine hK _ ?_; clear hK K)
  refine KS.nil ?_
  rintro _ ⟨p', rfl⟩
  go_wp2
  go_ret2
  exact ⟨rfl, below1 B1 (below_regrown _ _ _)⟩
theorem sureOf_bool_ne (l h : Int) (x y : Bool) (w : World) (hn : (!(x == y)) = true) (c1 : ∀ w', Below w.heap.size w w' → Calls Tryd.prog 52 #[.int .i64 l] w' fun e w'' => e = .returned (.bool x) ∧ Below w'.heap.size w' w'') (c2 : ∀ w', Below w.heap.size w w' → Calls Tryd.prog 52 #[.int .i64 h] w' fun e w'' => e = .returned (.bool y) ∧ Below w'.heap.size w' w'') :
    Calls Tryd.prog 50 #[spV l h, .func (.func 52) #[] #[]] w fun e w' => e = .returned (.tuple #[.bool false, .bool false]) ∧ Below w.heap.size w w' := by
  generalize hw1 : w.alloc (.cells #[.int .i64 l, .int .i64 h] 34) = w1
  have B1 : Below w.heap.size w w1 := hw1 ▸ below_new w _
  have X : Box w1 w.heap.size l h := hw1 ▸ Box.new w l h _
  have k0 := cell_regrown X.c0
  have k1 := cell_regrown X.c1
  have q1 : ∀ d os, Calls Tryd.prog 52 #[.int .i64 l] (grow (redrawn w1 d) os) fun e w'' => e = .returned (.bool x) ∧ ∃ p : Regrown, w'' = grow (redrawn w1 p.d) p.os := fun d os => Calls.regrown_of (c1 _ (below1 B1 (below_regrown w1 d os)))
  have q2 : ∀ d os, Calls Tryd.prog 52 #[.int .i64 h] (grow (redrawn w1 d) os) fun e w'' => e = .returned (.bool y) ∧ ∃ p : Regrown, w'' = grow (redrawn w1 p.d) p.os := fun d os => Calls.regrown_of (c2 _ (below1 B1 (below_regrown w1 d os)))
  go_enter Tryd.func50, Tryd.ntmps50
  go_wp2_with fail
  refine KS.region (by kernel_rfl) (by kernel_rfl) ?_
  repeat (refine KS.step (fun K hK => ?_); go_simp; refine hK _ ?_; clear hK K)
  refine KS.step (fun K hK => ?_)
  go_simp
  apply Exists.intro
  refine ⟨fun _ => ?_, hK _ ?_⟩
  exact q1 _ _
  clear hK K
  repeat (refine KS.step (fun K hK => ?_); go_simp; refine hK _ ?_; clear hK K)
  refine KS.step (fun K hK => ?_)
  go_simp
  apply Exists.intro
  refine ⟨fun _ => ?_, hK _ ?_⟩
  exact q2 _ _
  clear hK K
  repeat (refine KS.step (fun K hK => ?_); go_simp; refine hK _ ?_; clear hK K)
  refine KS.nil ?_
  rintro _ ⟨p', rfl⟩
  go_wp2
  go_ret2
  exact ⟨rfl, below1 B1 (below_regrown _ _ _)⟩
theorem sureLess_any (sl sh tl th : Int) (a : Addr) (w : World) (hs : Sn a w) :
    Calls Tryd.prog 23 #[spV sl sh, spV tl th] w fun e w' => e = .returned (.int .i64 (lessV sl sh tl th)) ∧ Below w.heap.size w w' := by
  go_enter Tryd.func23, Tryd.ntmps23
  go_wp2_with fail
  refine (spanOk_any sl sh a _ ((hs.alloc _).alloc _)).mono ?_
  rintro e w2 ⟨rfl, B2⟩
  have B := below1 (below_new2 w _ _) B2
  have S := ((Box.new w sl sh 34).alloc (.cells #[.int .i64 tl, .int .i64 th] 34)).kept B2
  have T := (Box.new2 w (.cells #[.int .i64 sl, .int .i64 sh] 34) tl th 34).kept B2
  have hs2 := ((hs.alloc (.cells #[.int .i64 sl, .int .i64 sh] 34)).alloc (.cells #[.int .i64 tl, .int .i64 th] 34)).kept B2
  clear B2
  cases ho : okS sl sh
  · have hv : Hid (3 = lessV sl sh tl th) := (less_no (both_no1 ho)).symm
    go_wp2
    go_ret
    exact ⟨NW.ret_int hv.out, B⟩
  · have ⟨t0, t1, t2, t3⟩ := T
    go_wp2_with fail
    refine (spanOk_any tl th a _ hs2).mono ?_
    rintro e w3 ⟨rfl, B3⟩
    clear t0 t1 t2 t3
    replace B := below1 B B3
    replace S := S.kept B3
    replace T := T.kept B3
    clear B3 hs2
    cases ht : okS tl th
    · have hv : Hid (3 = lessV sl sh tl th) := (less_no (both_no2 ht)).symm
      go_wp2
      go_ret
      exact ⟨NW.ret_int hv.out, B⟩
    · obtain ⟨o1, o2, o3⟩ := okS_of ho
      obtain ⟨p1, p2, p3⟩ := okS_of ht
      have hb := both_mk ho ht
      have k0 := cell_regrown S.c0
      have k1 := cell_regrown S.c1
      have k2 := cell_regrown T.c0
      have k3 := cell_regrown T.c1
      have q1 : ∀ d os, Calls Tryd.prog 51 #[spV tl th] (grow (redrawn w3 d) os) fun e w'' => e = .returned (spV (-th) (-tl)) ∧ ∃ p : Regrown, w'' = grow (redrawn w3 p.d) p.os := fun d os => Calls.regrown_of (about_s tl th _ (by omega) (by omega) (by omega) (by omega))
      have q2 : ∀ d os, Calls Tryd.prog 42 #[spV sl sh, spV (-th) (-tl)] (grow (redrawn w3 d) os) fun e w'' => e = .returned (spV (sl + -th) (sh + -tl)) ∧ ∃ p : Regrown, w'' = grow (redrawn w3 p.d) p.os := fun d os => Calls.regrown_of (plus_s sl sh (-th) (-tl) _ (by omega) (by omega) (by omega) (by omega) (by omega) (by omega))
      by_cases z1 : sh < tl
      · have d1 : decide (sl + -th < 0) = true := decide_eq_true (by omega)
        have d2 : decide (sh + -tl < 0) = true := decide_eq_true (by omega)
        have hv : Hid (1 = lessV sl sh tl th) := (less_yes hb z1).symm
        have q3 : ∀ d os, Calls Tryd.prog 50 #[spV (sl + -th) (sh + -tl), .func (.func 52) #[] #[]] (grow (redrawn w3 d) os) fun e w'' => e = .returned (.tuple #[.bool true, .bool true]) ∧ ∃ p : Regrown, w'' = grow (redrawn w3 p.d) p.os := fun d os => Calls.regrown_of (sureOf_bool_eq (sl + -th) (sh + -tl) true _ (fun w' _ => d1 ▸ belowZero_any _ w') (fun w' _ => d2 ▸ belowZero_any _ w'))
        go_wp2_with fail
        refine KS.region (by kernel_rfl) (by kernel_rfl) ?_
        repeat (refine KS.step (fun K hK => ?_); go_simp; refine hK _ ?_; clear hK K)
        refine KS.step (fun K hK => ?_)
        go_simp
        apply Exists.intro
        refine ⟨fun _ => ?_, hK _ ?_⟩
        exact q1 _ _
        clear hK K
        repeat (refine KS.step (fun K hK => ?_); go_simp; refine hK _ ?_; clear hK K)
        refine KS.step (fun K hK => ?_)
        go_simp
        apply Exists.intro
        refine ⟨fun _ => ?_, hK _ ?_⟩
        exact q2 _ _
        clear hK K
        repeat (refine KS.step (fun K hK => ?_); go_simp; refine hK _ ?_; clear hK K)
        refine KS.step (fun K hK => ?_)
        go_simp
        apply Exists.intro
        refine ⟨fun _ => ?_, hK _ ?_⟩
        exact q3 _ _
        clear hK K
        repeat (refine KS.step (fun K hK => ?_); go_simp; refine hK _ ?_; clear hK K)
        refine KS.nil ?_
        rintro _ ⟨p', rfl⟩
        go_wp2
        go_ret
        exact ⟨NW.ret_int hv.out, below1 B (below_regrown _ _ _)⟩
      · by_cases z2 : th ≤ sl
        · have d1 : decide (sl + -th < 0) = false := decide_eq_false (by omega)
          have d2 : decide (sh + -tl < 0) = false := decide_eq_false (by omega)
          have hv : Hid (2 = lessV sl sh tl th) := (less_not hb z1 z2).symm
          have q3 : ∀ d os, Calls Tryd.prog 50 #[spV (sl + -th) (sh + -tl), .func (.func 52) #[] #[]] (grow (redrawn w3 d) os) fun e w'' => e = .returned (.tuple #[.bool false, .bool true]) ∧ ∃ p : Regrown, w'' = grow (redrawn w3 p.d) p.os := fun d os => Calls.regrown_of (sureOf_bool_eq (sl + -th) (sh + -tl) false _ (fun w' _ => d1 ▸ belowZero_any _ w') (fun w' _ => d2 ▸ belowZero_any _ w'))
          go_wp2_with fail
          refine KS.region (by kernel_rfl) (by kernel_rfl) ?_
          repeat (refine KS.step (fun K hK => ?_); go_simp; refine hK _ ?_; clear hK K)
          refine KS.step (fun K hK => ?_)
          go_simp
          apply Exists.intro
          refine ⟨fun _ => ?_, hK _ ?_⟩
          exact q1 _ _
          clear hK K
          repeat (refine KS.step (fun K hK => ?_); go_simp; refine hK _ ?_; clear hK K)
          refine KS.step (fun K hK => ?_)
          go_simp
          apply Exists.intro
          refine ⟨fun _ => ?_, hK _ ?_⟩
          exact q2 _ _
          clear hK K
          repeat (refine KS.step (fun K hK => ?_); go_simp; refine hK _ ?_; clear hK K)
          refine KS.step (fun K hK => ?_)
          go_simp
          apply Exists.intro
          refine ⟨fun _ => ?_, hK _ ?_⟩
          exact q3 _ _
          clear hK K
          repeat (refine KS.step (fun K hK => ?_); go_simp; refine hK _ ?_; clear hK K)
          refine KS.nil ?_
          rintro _ ⟨p', rfl⟩
          go_wp2
          go_ret
          exact ⟨NW.ret_int hv.out, below1 B (below_regrown _ _ _)⟩
        · have d1 : decide (sl + -th < 0) = true := decide_eq_true (by omega)
          have d2 : decide (sh + -tl < 0) = false := decide_eq_false (by omega)
          have hv : Hid (3 = lessV sl sh tl th) := (less_else z1 z2).symm
          have q3 : ∀ d os, Calls Tryd.prog 50 #[spV (sl + -th) (sh + -tl), .func (.func 52) #[] #[]] (grow (redrawn w3 d) os) fun e w'' => e = .returned (.tuple #[.bool false, .bool false]) ∧ ∃ p : Regrown, w'' = grow (redrawn w3 p.d) p.os := fun d os => Calls.regrown_of (sureOf_bool_ne (sl + -th) (sh + -tl) true false _ rfl (fun w' _ => d1 ▸ belowZero_any _ w') (fun w' _ => d2 ▸ belowZero_any _ w'))
          go_wp2_with fail
          refine KS.region (by kernel_rfl) (by kernel_rfl) ?_
          repeat (refine KS.step (fun K hK => ?_); go_simp; refine hK _ ?_; clear hK K)
          refine KS.step (fun K hK => ?_)
          go_simp
          apply Exists.intro
          refine ⟨fun _ => ?_, hK _ ?_⟩
          exact q1 _ _
          clear hK K
          repeat (refine KS.step (fun K hK => ?_); go_simp; refine hK _ ?_; clear hK K)
          refine KS.step (fun K hK => ?_)
          go_simp
          apply Exists.intro
          refine ⟨fun _ => ?_, hK _ ?_⟩
          exact q2 _ _
          clear hK K
          repeat (refine KS.step (fun K hK => ?_); go_simp; refine hK _ ?_; clear hK K)
          refine KS.step (fun K hK => ?_)
          go_simp
          apply Exists.intro
          refine ⟨fun _ => ?_, hK _ ?_⟩
          exact q3 _ _
          clear hK K
          repeat (refine KS.step (fun K hK => ?_); go_simp; refine hK _ ?_; clear hK K)
          refine KS.nil ?_
          rintro _ ⟨p', rfl⟩
          go_wp2
          go_ret
          exact ⟨NW.ret_int hv.out, below1 B (below_regrown _ _ _)⟩

theorem sSureLess_any (sl sh tl th : Int) (w : World) :
    Calls Tryd.prog 21 #[spV sl sh, spV tl th] w fun e w' => e = .returned (.int .i64 (lessV sl sh tl th)) ∧ Below w.heap.size w w' := by
  go_enter Tryd.func21, Tryd.ntmps21
  go_wp2_with fail
  refine (sSpanOk_any sl sh _).mono ?_
  rintro e w2 ⟨rfl, B2⟩
  have B := below1 (below_new2 w _ _) B2
  have S := ((Box.new w sl sh 34).alloc (.cells #[.int .i64 tl, .int .i64 th] 34)).kept B2
  have T := (Box.new2 w (.cells #[.int .i64 sl, .int .i64 sh] 34) tl th 34).kept B2
  clear B2
  cases ho : okS sl sh
  · have hv : Hid (3 = lessV sl sh tl th) := (less_no (both_no1 ho)).symm
    go_wp2
    go_ret
    exact ⟨NW.ret_int hv.out, B⟩
  · have ⟨t0, t1, t2, t3⟩ := T
    go_wp2_with fail
    refine (sSpanOk_any tl th _).mono ?_
    rintro e w3 ⟨rfl, B3⟩
    clear t0 t1 t2 t3
    replace B := below1 B B3
    obtain ⟨s0, s1, s2, s3⟩ := S.kept B3
    obtain ⟨t0, t1, t2, t3⟩ := T.kept B3
    clear B3 S T
    cases ht : okS tl th
    · have hv : Hid (3 = lessV sl sh tl th) := (less_no (both_no2 ht)).symm
      go_wp2
      go_ret
      exact ⟨NW.ret_int hv.out, B⟩
    · have hb := both_mk ho ht
      by_cases z1 : sh < tl
      · have hv : Hid (1 = lessV sl sh tl th) := (less_yes hb z1).symm
        go_wp2
        go_ret
        exact ⟨NW.ret_int hv.out, B⟩
      · by_cases z2 : th ≤ sl
        · have hv : Hid (2 = lessV sl sh tl th) := (less_not hb z1 z2).symm
          go_wp2
          go_ret
          exact ⟨NW.ret_int hv.out, B⟩
        · have hv : Hid (3 = lessV sl sh tl th) := (less_else z1 z2).symm
          go_wp2
          go_ret
          exact ⟨NW.ret_int hv.out, B⟩

end SW
end Go.Proofs.YtfdkpcejjcifgauDoor
