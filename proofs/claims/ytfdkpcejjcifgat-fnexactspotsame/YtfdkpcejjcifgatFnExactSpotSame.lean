/-
  At every argument impl.SpotSame answers as the specification's SpotSame, and the law returns true. No conditions.
-/
import Derived.Test.YtfdkpcejjcifgatRows
import Derived.WalkKit
import Derived.ProofKit
import Derived.OpenShut
import Derived.Test.YtfdkpcejjcifgatSpotImpl
import Derived.Test.YtfdkpcejjcifgatSpotExact
import Derived.Test.YtfdkpcejjcifgatKeptStep
import Derived.Below
namespace Go.Proofs.Ytfdkpcejjcifgat.fnExactSpotSame
open Go.ChangeShapes Go.WideShapes Go.ChangeAt Go.RowKit
set_option linter.unusedVariables false

theorem own : ownKnob Try.prog.godebug = none := by kernel_rfl

open Go.RowKit Go.Sort
theorem walk (x0 y0 : Int) (x1 y1 : Int) (w : World) :
    Calls Try.prog 7 #[.agg #[.int .i64 x0, .int .i64 y0], .agg #[.int .i64 x1, .int .i64 y1]] w fun e w' => e = .returned (.bool true) ∧ Below w.heap.size w w' := by
  have hspec := fun w => SK.sSpotSame_any x0 y0 x1 y1 w
  have himpl := fun w => SK.spotSame_any x0 y0 x1 y1 w
  generalize SK.sameB x0 y0 x1 y1 = c at *
  have S0 := SK.Box.new w x0 y0 30
  have B := SK.below_new w (.cells #[.int .i64 x0, .int .i64 y0] 30)
  replace S0 := S0.alloc (.cells #[.int .i64 x1, .int .i64 y1] 30)
  have S1 : SK.Box ((w.alloc (.cells #[.int .i64 x0, .int .i64 y0] 30)).alloc (.cells #[.int .i64 x1, .int .i64 y1] 30)) (w.heap.size + 1) x1 y1 := by simpa using SK.Box.new (w.alloc (.cells #[.int .i64 x0, .int .i64 y0] 30)) x1 y1 30
  replace B := SK.below1 B (SK.below_new (w.alloc (.cells #[.int .i64 x0, .int .i64 y0] 30)) (.cells #[.int .i64 x1, .int .i64 y1] 30))
  go_enter Try.func7, Try.ntmps7
  go_wp2_with fail
  generalize ((w.alloc (.cells #[.int .i64 x0, .int .i64 y0] 30)).alloc (.cells #[.int .i64 x1, .int .i64 y1] 30)) = u1 at *
  have S0k0 := cell_regrown S0.c0
  have S0k1 := cell_regrown S0.c1
  have S1k0 := cell_regrown S1.c0
  have S1k1 := cell_regrown S1.c1
  have q0 : ∀ d os, Calls Try.prog 16 #[SK.spV x0 y0] (grow (redrawn u1 d) os) fun e w'' => e = .returned (SK.spV x0 y0) ∧ ∃ p : Regrown, w'' = grow (redrawn u1 p.d) p.os := fun d os => Calls.regrown_of (EP.toSpot_any _ _ _)
  have q1 : ∀ d os, Calls Try.prog 16 #[SK.spV x1 y1] (grow (redrawn u1 d) os) fun e w'' => e = .returned (SK.spV x1 y1) ∧ ∃ p : Regrown, w'' = grow (redrawn u1 p.d) p.os := fun d os => Calls.regrown_of (EP.toSpot_any _ _ _)
  have qf : ∀ d os, Calls Try.prog 18 #[SK.spV x0 y0, SK.spV x1 y1] (grow (redrawn u1 d) os) fun e w'' => e = .returned (.bool c) ∧ ∃ p : Regrown, w'' = grow (redrawn u1 p.d) p.os := fun d os => Calls.regrown_of (hspec _)
  refine KS.region (by kernel_rfl) (by kernel_rfl) ?_
  repeat (refine KS.step (fun K hK => ?_); go_simp; refine hK _ ?_; clear hK K)
  refine KS.step (fun K hK => ?_)
  go_simp
  apply Exists.intro
  refine ⟨fun _ => ?_, hK _ ?_⟩
  exact q0 _ _
  clear hK K
  repeat (refine KS.step (fun K hK => ?_); go_simp; refine hK _ ?_; clear hK K)
  refine KS.step (fun K hK => ?_)
  go_simp
  apply Exists.intro
  refine ⟨fun _ => ?_, hK _ ?_⟩
  exact q1 _ _
  clear hK K
  repeat (refine KS.step (fun K hK => ?_); go_simp; refine hK _ ?_; clear hK K)
  refine KS.step (fun K hK => ?_)
  go_simp
  apply Exists.intro
  refine ⟨fun _ => ?_, hK _ ?_⟩
  exact qf _ _
  clear hK K
  repeat (refine KS.step (fun K hK => ?_); go_simp; refine hK _ ?_; clear hK K)
  refine KS.nil ?_
  rintro _ ⟨p, rfl⟩
  have B2 := below_regrown u1 p.d p.os
  clear q0 q1 qf S0k0 S0k1 S1k0 S1k1
  generalize grow (redrawn u1 p.d) p.os = u2 at *
  replace S0 := S0.kept B2
  replace S1 := S1.kept B2
  replace B := SK.below1 B B2
  clear B2
  go_wp2_with fail
  have S0k0 := cell_regrown S0.c0
  have S0k1 := cell_regrown S0.c1
  have S1k0 := cell_regrown S1.c0
  have S1k1 := cell_regrown S1.c1
  have q0 : ∀ d os, Calls Try.prog 16 #[SK.spV x0 y0] (grow (redrawn u2 d) os) fun e w'' => e = .returned (SK.spV x0 y0) ∧ ∃ p : Regrown, w'' = grow (redrawn u2 p.d) p.os := fun d os => Calls.regrown_of (EP.toSpot_any _ _ _)
  have q1 : ∀ d os, Calls Try.prog 16 #[SK.spV x1 y1] (grow (redrawn u2 d) os) fun e w'' => e = .returned (SK.spV x1 y1) ∧ ∃ p : Regrown, w'' = grow (redrawn u2 p.d) p.os := fun d os => Calls.regrown_of (EP.toSpot_any _ _ _)
  have qf : ∀ d os, Calls Try.prog 19 #[SK.spV x0 y0, SK.spV x1 y1] (grow (redrawn u2 d) os) fun e w'' => e = .returned (.bool c) ∧ ∃ p : Regrown, w'' = grow (redrawn u2 p.d) p.os := fun d os => Calls.regrown_of (himpl _)
  refine KS.region (by kernel_rfl) (by kernel_rfl) ?_
  repeat (refine KS.step (fun K hK => ?_); go_simp; refine hK _ ?_; clear hK K)
  refine KS.step (fun K hK => ?_)
  go_simp
  apply Exists.intro
  refine ⟨fun _ => ?_, hK _ ?_⟩
  exact q0 _ _
  clear hK K
  repeat (refine KS.step (fun K hK => ?_); go_simp; refine hK _ ?_; clear hK K)
  refine KS.step (fun K hK => ?_)
  go_simp
  apply Exists.intro
  refine ⟨fun _ => ?_, hK _ ?_⟩
  exact q1 _ _
  clear hK K
  repeat (refine KS.step (fun K hK => ?_); go_simp; refine hK _ ?_; clear hK K)
  refine KS.step (fun K hK => ?_)
  go_simp
  apply Exists.intro
  refine ⟨fun _ => ?_, hK _ ?_⟩
  exact qf _ _
  clear hK K
  repeat (refine KS.step (fun K hK => ?_); go_simp; refine hK _ ?_; clear hK K)
  refine KS.nil ?_
  rintro _ ⟨p, rfl⟩
  have B2 := below_regrown u2 p.d p.os
  clear q0 q1 qf S0k0 S0k1 S1k0 S1k1
  generalize grow (redrawn u2 p.d) p.os = u3 at *
  replace S0 := S0.kept B2
  replace S1 := S1.kept B2
  replace B := SK.below1 B B2
  clear B2
  go_wp2
  go_ret
  exact ⟨rfl, B⟩

set_option maxRecDepth 100000 in
theorem lifted (os : Os) (started : os.Started) (H : Type) (enc : TypeId × Value → H) :
    ReturnsInHanded {} Try.checked os 7 .any (Rows.fnExactSpotSameSpec.pre6 enc Try.prog Try.f7 Rows.fnExactSpotSameRow.domain false) (Rows.fnExactSpotSameSpec.post enc Try.prog Try.f7 false true false false) := by
  refine returnsInHanded_of_change (C := Try.checked) own started (by kernel_rfl) Try.func7
    (ChangeSpec.witness6 (enc := enc) (C := Try.checked) false ⟨#[], #[.agg #[.int .i64 0, .int .i64 0], .agg #[.int .i64 0, .int .i64 0]], []⟩ 8 (by kernel_rfl) (by kernel_rfl) (by kernel_rfl) (by kernel_rfl)) ?_
  intro W base args ds gs before hval0 hW hcnd _
  have hval : ∀ (j : Nat) t v, Try.f7.params[j]? = some t → args[j]? = some v → Value.okWide Try.prog W .any base t v := hval0
  have hW' := hW
  obtain ⟨p, q, hA0, hV, rfl, hfz, hnd⟩ := hW
  have hA : DataW.TrodAll enc Try.prog W 0 (fun _ => true) true Try.f7.params.toList args.toList ds p := hA0
  rw [Try.params7] at hA hval
  obtain ⟨v0, vs0, d0, ds0, p0, q0, hargs0, rfl, rfl, h0, r0⟩ := trodAll_cons hA
  obtain ⟨v1, vs1, d1, ds1, p1, q1, hargs1, rfl, rfl, h1, r1⟩ := trodAll_cons r0
  obtain ⟨rfl, rfl, rfl⟩ := trodAll_nil r1
  obtain rfl : args = #[v0, v1] := by cases args; simp_all
  obtain ⟨rfl, rfl⟩ := trodVars_none hV
  obtain ⟨x0, y0, rfl, rfl, rfl, wx0, wy0⟩ := EP.open_spot (hval 0 30 v0 rfl rfl) h0
  obtain ⟨x1, y1, rfl, rfl, rfl, wx1, wy1⟩ := EP.open_spot (hval 1 30 v1 rfl rfl) h1
  clear hA0 hval0
  simp only [List.append_nil] at hW'
  refine (walk x0 y0 x1 y1 W).mono fun e W' ⟨he, bel⟩ => ?_
  subst he
  exact ⟨_, rfl, _, _, _, [], _, [], hW', (trodAll_cons_mk (shut_bool Try.underlying4 _) trodAll_mk0), (trodAll_cons_mk (EP.shut_spot wx0 wy0) (trodAll_cons_mk (EP.shut_spot wx1 wy1) trodAll_mk0)), rfl, bel.frame _, fun h => by cases h⟩

theorem over : Rows.fnExactSpotSameRow.holds Try.pinned (OpenSpec.ofChange Rows.fnExactSpotSameSpec) :=
  OpenClaim.holds_of_wide 7 Try.f7 rfl rfl rfl rfl rfl rfl rfl ⟨rfl, rfl, rfl, rfl, rfl⟩ rfl rfl rfl rfl rfl (by kernel_rfl) Try.func7 (by kernel_rfl)
    (of_decide_eq_true (by kernel_rfl)) (by unfold Func.isWrapper; first | (rw [if_pos (by decide +kernel)]; kernel_rfl) | (rw [if_neg (by decide +kernel)]; exact ⟨rfl, rfl⟩))
    (fun os started H enc _ => lifted os started H enc)

theorem proved : Rows.FnExactSpotSameSaid :=
  over
end Go.Proofs.Ytfdkpcejjcifgat.fnExactSpotSame
namespace Go.Proofs.Ytfdkpcejjcifgat
theorem fnExactSpotSame_holds : Rows.FnExactSpotSameSaid := fnExactSpotSame.proved
#print axioms fnExactSpotSame_holds
end Go.Proofs.Ytfdkpcejjcifgat
