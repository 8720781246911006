/-
  At every two spans impl.SureLess answers as the specification's SureLess, and the law returns true. The package's variable errTooGreat is as the program's text lays it.
-/
import Derived.Test.YtldogjldnckdmayDoorCards
import Derived.Test.YtldogjldnckdmayDoorTie
import Derived.Test.YtldogjldnckdmayDoorDoorKit
import Derived.WalkKit
import Derived.ProofKit
import Derived.OpenShut
import Derived.ShutString
import Derived.ChangeOld
import Derived.Below
import Derived.LaidMore
import Derived.Stop.Joined
import Derived.SevenTiedAt
import Derived.Test.YtldogjldnckdmayDoorExactKit
import Derived.Test.YtldogjldnckdmayDoorSpanWalks
import Derived.Test.YtldogjldnckdmayDoorSureMath
import Derived.Test.YtldogjldnckdmayDoorSureWalks
namespace Go.Proofs.YtldogjldnckdmayDoor.fnExactSureLess
open Go.ChangeShapes Go.WideShapes Go.ChangeAt Go.RowKit Go.Sort
set_option linter.unusedVariables false

theorem own : ownKnob Tryd.prog.godebug = none := by kernel_rfl
theorem laidOut : laidOutB Tryd.prog = true := by kernel_rfl
theorem pair (x0 y0 x1 y1 : Int) (sa : Addr) : ∃ (n : Int), (∀ w, Calls Tryd.prog 9 #[SW.spV x0 y0, SW.spV x1 y1] w fun e w' => e = .returned (.int .i64 n) ∧ Below w.heap.size w w') ∧ ∀ w, SW.Sn sa w → Calls Tryd.prog 10 #[SW.spV x0 y0, SW.spV x1 y1] w fun e w' => e = .returned (.int .i64 n) ∧ Below w.heap.size w w' :=
  ⟨_, fun w => SW.sSureLess_any x0 y0 x1 y1 w, fun w hs => SW.sureLess_any x0 y0 x1 y1 sa w hs⟩

set_option maxHeartbeats 8000000 in
theorem walk (x0 y0 : Int) (bx0 : -9223372036854775808 ≤ x0) (by0 : x0 ≤ 9223372036854775807) (cx0 : -9223372036854775808 ≤ y0) (cy0 : y0 ≤ 9223372036854775807) (x1 y1 : Int) (bx1 : -9223372036854775808 ≤ x1) (by1 : x1 ≤ 9223372036854775807) (cx1 : -9223372036854775808 ≤ y1) (cy1 : y1 ≤ 9223372036854775807) (sa : Addr) (w : World)  (hs : SW.Sn sa w) :
    Calls Tryd.prog 4 #[.agg #[.int .i64 x0, .int .i64 y0], .agg #[.int .i64 x1, .int .i64 y1]] w fun e w' => e = .returned (.bool true) ∧ Below w.heap.size w w' := by
  obtain ⟨n, hspec, himpl⟩ := pair x0 y0 x1 y1 sa
  clear bx0 by0 cx0 cy0 bx1 by1 cx1 cy1
  generalize hw1 : (w.alloc (.cells #[.int .i64 x0, .int .i64 y0] 23)).alloc (.cells #[.int .i64 x1, .int .i64 y1] 23) = w1
  have hs1 : SW.Sn sa w1 := hw1 ▸ (hs.alloc _).alloc _
  have B : Below w.heap.size w w1 := hw1 ▸ SW.below_new2 w _ _
  have S1 : SW.Box w1 w.heap.size x0 y0 := hw1 ▸ (EK.Box.par w x0 y0).alloc _
  have S2 : SW.Box w1 (w.heap.size + 1) x1 y1 := hw1 ▸ SW.Box.new2 w _ x1 y1 _
  go_enter Tryd.func4, Tryd.ntmps4
  have q1 : ∀ d os, Calls Tryd.prog 7 #[SW.spV x0 y0] (grow (redrawn w1 d) os) fun e w'' => e = .returned (SW.spV x0 y0) ∧ ∃ p : Regrown, w'' = grow (redrawn w1 p.d) p.os := fun d os => Calls.regrown_of (EK.toSpan_any _ _ _)
  have q2 : ∀ d os, Calls Tryd.prog 7 #[SW.spV x1 y1] (grow (redrawn w1 d) os) fun e w'' => e = .returned (SW.spV x1 y1) ∧ ∃ p : Regrown, w'' = grow (redrawn w1 p.d) p.os := fun d os => Calls.regrown_of (EK.toSpan_any _ _ _)
  have q3 : ∀ d os, Calls Tryd.prog 9 #[SW.spV x0 y0, SW.spV x1 y1] (grow (redrawn w1 d) os) fun e w'' => e = .returned (.int .i64 n) ∧ ∃ p : Regrown, w'' = grow (redrawn w1 p.d) p.os := fun d os => Calls.regrown_of (hspec _)
  have k0 := cell_regrown S1.c0
  have k1 := cell_regrown S1.c1
  have k2 := cell_regrown S2.c0
  have k3 := cell_regrown S2.c1
  go_wp2_with fail
  refine wp_region_quiet_below (by kernel_rfl) (by kernel_rfl) ?_
  quiet_step (fail)
  quiet_step (exact q1 _ _)
  quiet_step (fail)
  quiet_step (exact q2 _ _)
  quiet_step (exact q3 _ _)
  quiet_step (fail)
  refine wpQuiet_nil ?_
  rintro _ ⟨p, rfl⟩
  have B2 := below_regrown w1 p.d p.os
  generalize grow (redrawn w1 p.d) p.os = w2 at *
  replace S1 := S1.kept B2
  replace S2 := S2.kept B2
  replace hs1 := hs1.kept B2
  replace B := SW.below1 B B2
  clear B2 q1 q2 q3 k0 k1 k2 k3
  clear hw1
  have q1 : ∀ d os, Calls Tryd.prog 7 #[SW.spV x0 y0] (grow (redrawn w2 d) os) fun e w'' => e = .returned (SW.spV x0 y0) ∧ ∃ p : Regrown, w'' = grow (redrawn w2 p.d) p.os := fun d os => Calls.regrown_of (EK.toSpan_any _ _ _)
  have q2 : ∀ d os, Calls Tryd.prog 7 #[SW.spV x1 y1] (grow (redrawn w2 d) os) fun e w'' => e = .returned (SW.spV x1 y1) ∧ ∃ p : Regrown, w'' = grow (redrawn w2 p.d) p.os := fun d os => Calls.regrown_of (EK.toSpan_any _ _ _)
  have q3 : ∀ d os, Calls Tryd.prog 10 #[SW.spV x0 y0, SW.spV x1 y1] (grow (redrawn w2 d) os) fun e w'' => e = .returned (.int .i64 n) ∧ ∃ p : Regrown, w'' = grow (redrawn w2 p.d) p.os := fun d os => Calls.regrown_of (himpl _ (hs1.kept (below_regrown _ _ _)))
  have k0 := cell_regrown S1.c0
  have k1 := cell_regrown S1.c1
  have k2 := cell_regrown S2.c0
  have k3 := cell_regrown S2.c1
  go_wp2_with fail
  refine wp_region_quiet_below (by kernel_rfl) (by kernel_rfl) ?_
  quiet_step (fail)
  quiet_step (exact q1 _ _)
  quiet_step (fail)
  quiet_step (exact q2 _ _)
  quiet_step (exact q3 _ _)
  quiet_step (fail)
  refine wpQuiet_nil ?_
  rintro _ ⟨p, rfl⟩
  have B2 := below_regrown w2 p.d p.os
  generalize grow (redrawn w2 p.d) p.os = w3 at *
  replace S1 := S1.kept B2
  replace S2 := S2.kept B2
  replace hs1 := hs1.kept B2
  replace B := SW.below1 B B2
  clear B2 q1 q2 q3 k0 k1 k2 k3
  clear S1 S2 hspec himpl
  go_wp2
  go_ret
  exact ⟨rfl, B⟩

set_option maxRecDepth 100000 in
theorem lifted (os : Os) (started : os.Started) (H : Type) (enc : TypeId × Value → H) :
    ReturnsInHanded {} Tryd.checked os 4 .any (fun w args => (Rows.fnExactSureLessSpec.pre enc Tryd.prog Tryd.f4 [] false w args ∧ laidMetH Tryd.prog DR.laid1 w) ∧ sizedMet enc Tryd.prog Tryd.f4 (OpenSpec.ofChange Rows.fnExactSureLessSpec) false w args)
      (Rows.fnExactSureLessSpec.post enc Tryd.prog Tryd.f4 false true false false) := by
  refine returnsInHanded_of_change_and (C := Tryd.checked) (X := fun w _ => laidMetH Tryd.prog DR.laid1 w) (fun _ _ _ hh h => h.of_heap hh) own started (by kernel_rfl) Tryd.func4
    (ChangeSpec.witness_shaped (enc := enc) (C := Tryd.checked) (os := os) (X := fun w _ => laidMetH Tryd.prog DR.laid1 w) false (World.doorLaid Tryd.prog 400 os) #[.agg #[.int .i64 0, .int .i64 0], .agg #[.int .i64 0, .int .i64 0]] 8 rfl (World.shaped_of_RefB (by kernel_rfl) (by kernel_rfl)) (by kernel_rfl) (by kernel_rfl) (by kernel_rfl) (DR.door_met os _)) ?_
  intro W base args ds gs before hval0 hW _ _ hL _
  have hval : ∀ (j : Nat) t v, Tryd.f4.params[j]? = some t → args[j]? = some v → Value.okWide Tryd.prog W .any base t v := hval0
  have hW' := hW
  obtain ⟨p, q, hA0, hV, rfl, hfz, hnd⟩ := hW
  have hA : DataW.TrodAll enc Tryd.prog W 0 (fun _ => true) true Tryd.f4.params.toList args.toList ds p := hA0
  rw [Tryd.params4] at hA hval
  obtain ⟨v0, vs0, d0, ds0, p0, q0, hargs0, rfl, rfl, h0, r0⟩ := trodAll_cons hA
  obtain ⟨v1, vs1, d1, ds1, p1, q1, hargs1, rfl, rfl, h1, r1⟩ := trodAll_cons r0
  obtain ⟨rfl, rfl, rfl⟩ := trodAll_nil r1
  obtain rfl : args = #[v0, v1] := by cases args; simp_all
  obtain ⟨sa, hv, hs⟩ := DR.of_laid hL
  obtain ⟨rfl, rfl⟩ := DataW.TrodVars.unique hV (DR.vars_read enc hv _)
  obtain ⟨x0, y0, rfl, rfl, rfl, wx0, wy0⟩ := EK.open_span (hval 0 23 v0 rfl rfl) h0
  obtain ⟨bx0, by0⟩ := EK.bounds wx0
  obtain ⟨cx0, cy0⟩ := EK.bounds wy0
  obtain ⟨x1, y1, rfl, rfl, rfl, wx1, wy1⟩ := EK.open_span (hval 1 23 v1 rfl rfl) h1
  obtain ⟨bx1, by1⟩ := EK.bounds wx1
  obtain ⟨cx1, cy1⟩ := EK.bounds wy1
  clear hA0 hval0
  refine (walk x0 y0 bx0 by0 cx0 cy0 x1 y1 bx1 by1 cx1 cy1 sa W  hs).mono fun e W' ⟨he, bel⟩ => ?_
  subst he
  exact ⟨_, rfl, _, _, _, [], _, [.cell 0 0], hW', trodAll_mk1 (shut_bool Tryd.underlying4 _), (trodAll_cons_mk (EK.shut_span wx0 wy0) (trodAll_cons_mk (EK.shut_span wx1 wy1) trodAll_mk0)), DR.vars_read enc (DR.var_below hv bel) _, bel.frame _, fun h => by cases h⟩

theorem said : Rows.FnExactSureLessSaid :=
  OpenClaim.holds_of_wide 4 Tryd.f4 rfl rfl rfl rfl rfl rfl rfl ⟨rfl, rfl, rfl, rfl, rfl⟩ rfl rfl rfl rfl rfl (by kernel_rfl) Tryd.func4 (by kernel_rfl)
    (of_decide_eq_true (by kernel_rfl)) (by unfold Func.isWrapper; first | (rw [if_pos (by decide +kernel)]; kernel_rfl) | (rw [if_neg (by decide +kernel)]; exact ⟨rfl, rfl⟩))
    (fun os started H enc _ => lifted os started H enc)

theorem plain (f : FuncId) (fn : Func) (hf : Tryd.pinned.checked.prog.funcNamed "loop.example/alidade/laws.FnExactSureLess" = some f) (hfn : Tryd.pinned.checked.prog.funcs[f]? = some fn) :
    true = Tryd.pinned.checked.prog.looks [] ∧ ∀ (j : Nat) t, fn.params[j]? = some t → Tryd.pinned.checked.prog.wantsStandIn t = false := by
  obtain rfl : f = 4 := Option.some.inj ((show Tryd.prog.funcNamed "loop.example/alidade/laws.FnExactSureLess" = some 4 by kernel_rfl).symm.trans hf) |>.symm
  obtain rfl : fn = Tryd.f4 := (Option.some.inj (Tryd.func4.symm.trans hfn)).symm
  refine ⟨by kernel_rfl, fun j t ht => ?_⟩
  rw [Tryd.params4] at ht
  have hm : t ∈ [23, 23] := by
    have := Array.mem_of_getElem? ht
    simpa using this
  have hall : ([23, 23].all fun u => !Tryd.prog.wantsStandIn u) = true := by kernel_rfl
  exact (show Tryd.prog.wantsStandIn t = false by simpa using List.all_eq_true.1 hall t hm)

theorem card : Rows.FnExactSureLessCardSaid :=
  Claim7.holds_tied_plain_at .later [] _ _ _ _ said (fun _ h => by cases h) (by kernel_rfl) (fun _ h => by cases h) fnExactSureLess_row_tie rfl ⟨rfl, rfl⟩ (by kernel_rfl) rfl plain (by kernel_rfl)
end Go.Proofs.YtldogjldnckdmayDoor.fnExactSureLess
namespace Go.Proofs.YtldogjldnckdmayDoor
theorem fnExactSureLess_holds : Rows.FnExactSureLessCardSaid := fnExactSureLess.card
#print axioms fnExactSureLess_holds
end Go.Proofs.YtldogjldnckdmayDoor
