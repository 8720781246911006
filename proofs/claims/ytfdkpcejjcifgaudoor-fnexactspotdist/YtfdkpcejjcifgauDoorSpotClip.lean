/-
  What is clipped, and the products of it, as the program reckons them.
-/
import Derived.Test.YtfdkpcejjcifgauDoorSpotImpl
import Derived.Test.YtfdkpcejjcifgauDoorSpotWalks3
import Derived.Test.YtfdkpcejjcifgauDoorSpotBook
import Derived.Test.YtfdkpcejjcifgauDoorSpanWalks3
namespace Go.Proofs.YtfdkpcejjcifgauDoor
open Go.RowKit Go.Sort
set_option linter.unusedVariables false
namespace SK
theorem same_of {a l b m : Int} (e : sameB a l b m = true) : SI.sameP a l b m := by
  unfold sameB at e
  simp only [Bool.and_eq_true, Bool.or_eq_true, beq_iff_eq] at e
  obtain ⟨_, _, e1, e2⟩ := e
  refine ⟨e1, ?_⟩
  rcases e2 with h | h
  · exact Or.inl h
  · exact Or.inr (pole_of h)
theorem clip_any (x : Int) (w : World) : Calls Tryd.prog 64 #[.int .i64 x] w fun e w' => e = .returned (.int .i64 (SI.clp x)) ∧ w' = w := by
  go_enter Tryd.func64, Tryd.ntmps64
  go_wp2
  go_ret
  exact ⟨rfl, rfl⟩
theorem clipped_any (x y : Int) (w : World) : Calls Tryd.prog 43 #[spV x y] w fun e w' => e = .returned (spV (SI.clp x) (SI.clp y)) ∧ Below w.heap.size w w' := by
  have K1 := fun w => clip_any x w
  have K2 := fun w => clip_any y w
  generalize SI.clp x = p at *
  generalize SI.clp y = q at *
  have X := (Box.new w x y 34).alloc (.cells #[.int .i64 0, .int .i64 0] 34)
  have R := Box.new2 w (.cells #[.int .i64 x, .int .i64 y] 34) 0 0 34
  have B := below_new2 w (.cells #[.int .i64 x, .int .i64 y] 34) (.cells #[.int .i64 0, .int .i64 0] 34)
  go_enter Tryd.func43, Tryd.ntmps43
  go_wp2_with fail
  generalize (w.alloc (.cells #[.int .i64 x, .int .i64 y] 34)).alloc (.cells #[.int .i64 0, .int .i64 0] 34) = w1 at *
  have k0 := cell_regrown X.c0
  have k1 := cell_regrown X.c1
  have c1 : ∀ d os, Calls Tryd.prog 64 #[.int .i64 x] (grow (redrawn w1 d) os) fun e w'' => e = .returned (.int .i64 p) ∧ ∃ p : Regrown, w'' = grow (redrawn w1 p.d) p.os := fun d os => Calls.regrown_of ((K1 _).mono fun _ _ ⟨h1, h2⟩ => ⟨h1, h2 ▸ Below.refl _ _⟩)
  have c2 : ∀ d os, Calls Tryd.prog 64 #[.int .i64 y] (grow (redrawn w1 d) os) fun e w'' => e = .returned (.int .i64 q) ∧ ∃ p : Regrown, w'' = grow (redrawn w1 p.d) p.os := fun d os => Calls.regrown_of ((K2 _).mono fun _ _ ⟨h1, h2⟩ => ⟨h1, h2 ▸ Below.refl _ _⟩)
  refine QT.region 7 (by kernel_rfl) (by kernel_rfl) ?_
  simp only [List.take, List.drop]
  repeat (quiet_step (fail))
  quiet_step (exact c1 _ _)
  repeat (quiet_step (fail))
  quiet_step (exact c2 _ _)
  repeat (quiet_step (fail))
  refine wpQuiet_nil ?_
  rintro _ ⟨p', rfl⟩
  have B2 := below_regrown w1 p'.d p'.os
  generalize grow (redrawn w1 p'.d) p'.os = V at *
  obtain ⟨R0, R1, R2, R3⟩ := R.kept B2
  replace B := below1 B B2
  clear B2 c1 c2 k0 k1 X K1 K2
  go_wp2
  refine bodyPost_ret (v := .agg #[.int .i64 p, .int .i64 q]) (by simp [results, Tryd.results43, go_sem, *]) rfl ⟨rfl, ?_⟩
  exact below_set2 B (by omega) _ _
theorem clipMul_any (sl sh tl th : Int) (w : World) (o1 : -1073000000 ≤ sl) (o2 : sl ≤ sh) (o3 : sh ≤ 1073000000) (p1 : -1073000000 ≤ tl) (p2 : tl ≤ th) (p3 : th ≤ 1073000000) :
    Calls Tryd.prog 41 #[spV sl sh, spV tl th] w fun e w' => e = .returned (spV (SI.clp (SM.mulLo sl sh tl th)) (SI.clp (SM.mulHi sl sh tl th))) ∧ Below w.heap.size w w' := by
  have K1 : ∀ w, Calls Tryd.prog 62 #[spV sl sh, spV tl th, .func (.func 63) #[] #[]] w fun e w' => e = .returned (spV (SM.mulLo sl sh tl th) (SM.mulHi sl sh tl th)) ∧ Below w.heap.size w w' := fun w => SW.endsMul_any sl sh tl th w o1 o2 o3 p1 p2 p3
  have K2 := fun w => clipped_any (SM.mulLo sl sh tl th) (SM.mulHi sl sh tl th) w
  generalize SM.mulLo sl sh tl th = p at *
  generalize SM.mulHi sl sh tl th = q at *
  generalize SI.clp p = u at *
  generalize SI.clp q = v at *
  have R : Box (((w.alloc (.cells #[.int .i64 sl, .int .i64 sh] 34)).alloc (.cells #[.int .i64 tl, .int .i64 th] 34)).alloc (.cells #[.int .i64 0, .int .i64 0] 34)) (w.heap.size + 1 + 1) 0 0 := by simpa using Box.new ((w.alloc (.cells #[.int .i64 sl, .int .i64 sh] 34)).alloc (.cells #[.int .i64 tl, .int .i64 th] 34)) 0 0 34
  have B := below1 (below_new2 w (.cells #[.int .i64 sl, .int .i64 sh] 34) (.cells #[.int .i64 tl, .int .i64 th] 34)) (below_new _ (.cells #[.int .i64 0, .int .i64 0] 34))
  go_enter Tryd.func41, Tryd.ntmps41
  go_wp2_with fail
  refine (K1 _).mono ?_
  rintro e w1 ⟨rfl, B1⟩
  replace R := R.kept B1
  replace B := below1 B B1
  clear B1 K1
  go_wp2_with fail
  refine (K2 _).mono ?_
  rintro e w2 ⟨rfl, B2⟩
  obtain ⟨R0, R1, R2, R3⟩ := R.kept B2
  replace B := below1 B B2
  clear B2 K2
  go_wp2
  refine bodyPost_ret (v := .agg #[.int .i64 u, .int .i64 v]) (by simp [results, Tryd.results41, go_sem, *]) rfl ⟨rfl, ?_⟩
  exact below_set2 B (by omega) _ _
end SK
end Go.Proofs.YtfdkpcejjcifgauDoor
