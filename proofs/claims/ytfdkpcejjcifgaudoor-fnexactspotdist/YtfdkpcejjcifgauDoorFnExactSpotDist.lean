/-
  At every argument impl.SpotDist answers as the specification's SpotDist, and the law returns true. The package's variable errTooGreat is as the program's text lays it.
-/
import Derived.Test.YtfdkpcejjcifgauDoorCards
import Derived.Test.YtfdkpcejjcifgauDoorTie
import Derived.Test.YtfdkpcejjcifgauDoorDoorKit
import Derived.WalkKit
import Derived.ProofKit
import Derived.OpenShut
import Derived.ShutString
import Derived.ChangeOld
import Derived.Below
import Derived.LaidMore
import Derived.Stop.Joined
import Derived.SevenTiedAt
import Derived.Test.YtfdkpcejjcifgauDoorSpotMemo3
import Derived.Test.YtfdkpcejjcifgauDoorSpotExact
import Derived.Test.YtfdkpcejjcifgauDoorLooseS
namespace Go.Proofs.YtfdkpcejjcifgauDoor.fnExactSpotDist
open Go.ChangeShapes Go.WideShapes Go.ChangeAt Go.RowKit Go.Sort
set_option linter.unusedVariables false

theorem own : ownKnob Tryd.prog.godebug = none := by kernel_rfl
theorem laidOut : laidOutB Tryd.prog = true := by kernel_rfl

set_option maxHeartbeats 8000000 in
theorem walk (x0 y0 : Int) (x1 y1 : Int) (sa : Addr) (w : World)  (hs : SW.Sn sa w) :
    Calls Tryd.prog 3 #[.agg #[.int .i64 x0, .int .i64 y0], .agg #[.int .i64 x1, .int .i64 y1]] w fun e w' => e = .returned (.bool true) ∧ Below w.heap.size w w' := by
  have hspec := fun w => SK.sSpotDist_any x0 y0 x1 y1 w
  have himpl := fun w (hs : SW.Sn sa w) => SK.spotDist_any x0 y0 x1 y1 sa w hs
  generalize SM.sel (SK.okP x0 y0 && SK.okP x1 y1) (SI.dsL x0 y0 x1 y1) = lo at *
  generalize SM.sel (SK.okP x0 y0 && SK.okP x1 y1) (SI.dsH x0 y0 x1 y1) = hi at *
  generalize (SK.okP x0 y0 && SK.okP x1 y1) = c at *
  have S0 := SK.Box.new w x0 y0 23
  have B := SK.below_new w (.cells #[.int .i64 x0, .int .i64 y0] 23)
  replace hs := hs.alloc (.cells #[.int .i64 x0, .int .i64 y0] 23)
  replace S0 := S0.alloc (.cells #[.int .i64 x1, .int .i64 y1] 23)
  have S1 : SK.Box ((w.alloc (.cells #[.int .i64 x0, .int .i64 y0] 23)).alloc (.cells #[.int .i64 x1, .int .i64 y1] 23)) (w.heap.size + 1) x1 y1 := by simpa using SK.Box.new (w.alloc (.cells #[.int .i64 x0, .int .i64 y0] 23)) x1 y1 23
  replace B := SK.below1 B (SK.below_new (w.alloc (.cells #[.int .i64 x0, .int .i64 y0] 23)) (.cells #[.int .i64 x1, .int .i64 y1] 23))
  replace hs := hs.alloc (.cells #[.int .i64 x1, .int .i64 y1] 23)
  go_enter Tryd.func3, Tryd.ntmps3
  go_wp2_with fail
  generalize ((w.alloc (.cells #[.int .i64 x0, .int .i64 y0] 23)).alloc (.cells #[.int .i64 x1, .int .i64 y1] 23)) = u1 at *
  have S0k0 := cell_regrown S0.c0
  have S0k1 := cell_regrown S0.c1
  have S1k0 := cell_regrown S1.c0
  have S1k1 := cell_regrown S1.c1
  have q0 : ∀ d os, Calls Tryd.prog 6 #[SK.spV x0 y0] (grow (redrawn u1 d) os) fun e w'' => e = .returned (SK.spV x0 y0) ∧ (∃ p : Regrown, w'' = grow (redrawn u1 p.d) p.os) ∧ LQ.Keeps (LS.ndTwo u1.heap.size 8 5 lo hi) (grow (redrawn u1 d) os) w'' := fun d os => LS.of_below (EP.toSpot_any _ _ _)
  have q1 : ∀ d os, Calls Tryd.prog 6 #[SK.spV x1 y1] (grow (redrawn u1 d) os) fun e w'' => e = .returned (SK.spV x1 y1) ∧ (∃ p : Regrown, w'' = grow (redrawn u1 p.d) p.os) ∧ LQ.Keeps (LS.ndTwo u1.heap.size 8 5 lo hi) (grow (redrawn u1 d) os) w'' := fun d os => LS.of_below (EP.toSpot_any _ _ _)
  have qf : ∀ d os, Calls Tryd.prog 5 #[SK.spV x0 y0, SK.spV x1 y1] (grow (redrawn u1 d) os) fun e w'' => e = .returned (.tuple #[SK.spV lo hi, .bool c]) ∧ (∃ p : Regrown, w'' = grow (redrawn u1 p.d) p.os) ∧ LQ.Keeps (LS.ndTwo u1.heap.size 8 5 lo hi) (grow (redrawn u1 d) os) w'' := fun d os => LS.of_below (hspec _)
  refine LQ.region (LS.Cl u1) (LS.ndTwo u1.heap.size 8 5 lo hi) 10 [0, 1, 2, 3, 4, 5, 6, 7, 8, 9] (LS.ndTwo_local (by kernel_rfl)) (by kernel_rfl) (by kernel_rfl) (fun _ _ h => h) (LS.Cl.start u1 10) ?_
  iterate 1 (refine LQ.stepD rfl rfl (fun N hN => ?_); go_simp; apply Exists.intro; refine ⟨fun _ _ _ => ?_, hN _ _ ?_⟩; exact And.intro rfl rfl; clear hN N)
  refine LQ.stepD rfl rfl (fun N hN => ?_)
  go_simp
  apply Exists.intro
  refine ⟨fun _ _ _ => ?_, hN _ _ ?_⟩
  exact And.intro rfl (q0 _ _)
  clear hN N
  iterate 1 (refine LQ.stepD rfl rfl (fun N hN => ?_); go_simp; apply Exists.intro; refine ⟨fun _ _ _ => ?_, hN _ _ ?_⟩; exact And.intro rfl rfl; clear hN N)
  refine LQ.stepD rfl rfl (fun N hN => ?_)
  go_simp
  apply Exists.intro
  refine ⟨fun _ _ _ => ?_, hN _ _ ?_⟩
  exact And.intro rfl (q1 _ _)
  clear hN N
  refine LQ.stepD rfl rfl (fun N hN => ?_)
  go_simp
  apply Exists.intro
  refine ⟨fun _ _ _ => ?_, hN _ _ ?_⟩
  exact And.intro rfl (qf _ _)
  clear hN N
  iterate 3 (refine LQ.stepD rfl rfl (fun N hN => ?_); go_simp; apply Exists.intro; refine ⟨fun _ _ _ => ?_, hN _ _ ?_⟩; exact And.intro rfl rfl; clear hN N)
  refine LQ.stepN rfl rfl (fun N hN => ?_)
  go_simp
  refine ⟨fun f p _ => LS.alloc u1 p.d p.os 8 5 lo hi _ _ (by simp [grow]), ?_⟩
  rintro u _ bu2 rfl hbu2 _ _ _
  refine hN _ _ ?_
  clear hN N q0 q1 qf S0k0 S0k1 S1k0 S1k1
  refine LQ.stepN rfl rfl (fun N hN => ?_)
  go_simp
  refine ⟨fun f p hk => ?_, fun _ _ => hN _ _ ?_⟩
  · obtain ⟨x, y, X⟩ := (hk _ (List.mem_cons_self ..)).2
    have X' := X
    obtain ⟨g0, g1, g2, g3⟩ := X'
    clear hk
    go_simp
    exact LS.store1 hbu2 X
  clear hN N
  refine LQ.lexEnd ?_
  rintro u2 ⟨p, rfl⟩ kn
  have B2 := below_regrown u1 p.d p.os
  have Xu2 := (kn _ (List.mem_cons_self ..)).2
  clear kn
  generalize grow (redrawn u1 p.d) p.os = u2 at *
  simp only [List.drop]
  replace S0 := S0.kept B2
  replace S1 := S1.kept B2
  replace B := SK.below1 B B2
  replace hs := hs.kept B2
  clear B2
  go_wp2_with fail
  have S0k0 := cell_regrown S0.c0
  have S0k1 := cell_regrown S0.c1
  have S1k0 := cell_regrown S1.c0
  have S1k1 := cell_regrown S1.c1
  have q0 : ∀ d os, Calls Tryd.prog 6 #[SK.spV x0 y0] (grow (redrawn u2 d) os) fun e w'' => e = .returned (SK.spV x0 y0) ∧ (∃ p : Regrown, w'' = grow (redrawn u2 p.d) p.os) ∧ LQ.Keeps (LS.ndTwo u2.heap.size 8 7 lo hi) (grow (redrawn u2 d) os) w'' := fun d os => LS.of_below (EP.toSpot_any _ _ _)
  have q1 : ∀ d os, Calls Tryd.prog 6 #[SK.spV x1 y1] (grow (redrawn u2 d) os) fun e w'' => e = .returned (SK.spV x1 y1) ∧ (∃ p : Regrown, w'' = grow (redrawn u2 p.d) p.os) ∧ LQ.Keeps (LS.ndTwo u2.heap.size 8 7 lo hi) (grow (redrawn u2 d) os) w'' := fun d os => LS.of_below (EP.toSpot_any _ _ _)
  have qf : ∀ d os, Calls Tryd.prog 7 #[SK.spV x0 y0, SK.spV x1 y1] (grow (redrawn u2 d) os) fun e w'' => e = .returned (.tuple #[SK.spV lo hi, .bool c]) ∧ (∃ p : Regrown, w'' = grow (redrawn u2 p.d) p.os) ∧ LQ.Keeps (LS.ndTwo u2.heap.size 8 7 lo hi) (grow (redrawn u2 d) os) w'' := fun d os => LS.of_below (himpl _ (hs.kept (below_regrown _ _ _)))
  refine LQ.region (LS.Cl u2) (LS.ndTwo u2.heap.size 8 7 lo hi) 10 [0, 1, 2, 3, 4, 5, 6, 7, 8, 9] (LS.ndTwo_local (by kernel_rfl)) (by kernel_rfl) (by kernel_rfl) (fun _ _ h => h) (LS.Cl.start u2 10) ?_
  iterate 1 (refine LQ.stepD rfl rfl (fun N hN => ?_); go_simp; apply Exists.intro; refine ⟨fun _ _ _ => ?_, hN _ _ ?_⟩; exact And.intro rfl rfl; clear hN N)
  refine LQ.stepD rfl rfl (fun N hN => ?_)
  go_simp
  apply Exists.intro
  refine ⟨fun _ _ _ => ?_, hN _ _ ?_⟩
  exact And.intro rfl (q0 _ _)
  clear hN N
  iterate 1 (refine LQ.stepD rfl rfl (fun N hN => ?_); go_simp; apply Exists.intro; refine ⟨fun _ _ _ => ?_, hN _ _ ?_⟩; exact And.intro rfl rfl; clear hN N)
  refine LQ.stepD rfl rfl (fun N hN => ?_)
  go_simp
  apply Exists.intro
  refine ⟨fun _ _ _ => ?_, hN _ _ ?_⟩
  exact And.intro rfl (q1 _ _)
  clear hN N
  refine LQ.stepD rfl rfl (fun N hN => ?_)
  go_simp
  apply Exists.intro
  refine ⟨fun _ _ _ => ?_, hN _ _ ?_⟩
  exact And.intro rfl (qf _ _)
  clear hN N
  iterate 3 (refine LQ.stepD rfl rfl (fun N hN => ?_); go_simp; apply Exists.intro; refine ⟨fun _ _ _ => ?_, hN _ _ ?_⟩; exact And.intro rfl rfl; clear hN N)
  refine LQ.stepN rfl rfl (fun N hN => ?_)
  go_simp
  refine ⟨fun f p _ => LS.alloc u2 p.d p.os 8 7 lo hi _ _ (by simp [grow]), ?_⟩
  rintro u _ bu3 rfl hbu3 _ _ _
  refine hN _ _ ?_
  clear hN N q0 q1 qf S0k0 S0k1 S1k0 S1k1
  refine LQ.stepN rfl rfl (fun N hN => ?_)
  go_simp
  refine ⟨fun f p hk => ?_, fun _ _ => hN _ _ ?_⟩
  · obtain ⟨x, y, X⟩ := (hk _ (List.mem_cons_self ..)).2
    have X' := X
    obtain ⟨g0, g1, g2, g3⟩ := X'
    clear hk
    go_simp
    exact LS.store1 hbu3 X
  clear hN N
  refine LQ.lexEnd ?_
  rintro u3 ⟨p, rfl⟩ kn
  have B2 := below_regrown u2 p.d p.os
  have Xu3 := (kn _ (List.mem_cons_self ..)).2
  clear kn
  generalize grow (redrawn u2 p.d) p.os = u3 at *
  simp only [List.drop]
  replace Xu2 := Xu2.kept B2
  replace B := SK.below1 B B2
  replace hs := hs.kept B2
  clear B2
  have ⟨Xu2c0, Xu2c1, Xu2f0, Xu2f1⟩ := Xu2
  have ⟨Xu3c0, Xu3c1, Xu3f0, Xu3f1⟩ := Xu3
  go_wp2_with fail
  refine (EP.eqFan_same _ _ _).mono ?_
  rintro e u4 ⟨rfl, B4⟩
  replace B := SK.below1 B B4
  go_wp2
  go_ret
  exact ⟨rfl, B⟩

set_option maxRecDepth 100000 in
theorem lifted (os : Os) (started : os.Started) (H : Type) (enc : TypeId × Value → H) :
    ReturnsInHanded {} Tryd.checked os 3 .any (fun w args => (Rows.fnExactSpotDistSpec.pre enc Tryd.prog Tryd.f3 [] false w args ∧ laidMetH Tryd.prog DR.laid1 w) ∧ sizedMet enc Tryd.prog Tryd.f3 (OpenSpec.ofChange Rows.fnExactSpotDistSpec) false w args)
      (Rows.fnExactSpotDistSpec.post enc Tryd.prog Tryd.f3 false true false false) := by
  refine returnsInHanded_of_change_and (C := Tryd.checked) (X := fun w _ => laidMetH Tryd.prog DR.laid1 w) (fun _ _ _ hh h => h.of_heap hh) own started (by kernel_rfl) Tryd.func3
    (ChangeSpec.witness_shaped (enc := enc) (C := Tryd.checked) (os := os) (X := fun w _ => laidMetH Tryd.prog DR.laid1 w) false (World.doorLaid Tryd.prog 400 os) #[.agg #[.int .i64 0, .int .i64 0], .agg #[.int .i64 0, .int .i64 0]] 8 rfl (World.shaped_of_RefB (by kernel_rfl) (by kernel_rfl)) (by kernel_rfl) (by kernel_rfl) (by kernel_rfl) (DR.door_met os _)) ?_
  intro W base args ds gs before hval0 hW _ _ hL _
  have hval : ∀ (j : Nat) t v, Tryd.f3.params[j]? = some t → args[j]? = some v → Value.okWide Tryd.prog W .any base t v := hval0
  have hW' := hW
  obtain ⟨p, q, hA0, hV, rfl, hfz, hnd⟩ := hW
  have hA : DataW.TrodAll enc Tryd.prog W 0 (fun _ => true) true Tryd.f3.params.toList args.toList ds p := hA0
  rw [Tryd.params3] at hA hval
  obtain ⟨v0, vs0, d0, ds0, p0, q0, hargs0, rfl, rfl, h0, r0⟩ := trodAll_cons hA
  obtain ⟨v1, vs1, d1, ds1, p1, q1, hargs1, rfl, rfl, h1, r1⟩ := trodAll_cons r0
  obtain ⟨rfl, rfl, rfl⟩ := trodAll_nil r1
  obtain rfl : args = #[v0, v1] := by cases args; simp_all
  obtain ⟨sa, hv, hs⟩ := DR.of_laid hL
  obtain ⟨rfl, rfl⟩ := DataW.TrodVars.unique hV (DR.vars_read enc hv _)
  obtain ⟨x0, y0, rfl, rfl, rfl, wx0, wy0⟩ := EP.open_spot (hval 0 23 v0 rfl rfl) h0
  obtain ⟨x1, y1, rfl, rfl, rfl, wx1, wy1⟩ := EP.open_spot (hval 1 23 v1 rfl rfl) h1
  clear hA0 hval0
  refine (walk x0 y0 x1 y1 sa W  hs).mono fun e W' ⟨he, bel⟩ => ?_
  subst he
  exact ⟨_, rfl, _, _, _, [], _, [.cell 0 0], hW', trodAll_mk1 (shut_bool Tryd.underlying4 _), (trodAll_cons_mk (EP.shut_spot wx0 wy0) (trodAll_cons_mk (EP.shut_spot wx1 wy1) trodAll_mk0)), DR.vars_read enc (DR.var_below hv bel) _, bel.frame _, fun h => by cases h⟩

theorem said : Rows.FnExactSpotDistSaid :=
  OpenClaim.holds_of_wide 3 Tryd.f3 rfl rfl rfl rfl rfl rfl rfl ⟨rfl, rfl, rfl, rfl, rfl⟩ rfl rfl rfl rfl rfl (by kernel_rfl) Tryd.func3 (by kernel_rfl)
    (of_decide_eq_true (by kernel_rfl)) (by unfold Func.isWrapper; first | (rw [if_pos (by decide +kernel)]; kernel_rfl) | (rw [if_neg (by decide +kernel)]; exact ⟨rfl, rfl⟩))
    (fun os started H enc _ => lifted os started H enc)

theorem plain (f : FuncId) (fn : Func) (hf : Tryd.pinned.checked.prog.funcNamed "loop.example/alidade/laws.FnExactSpotDist" = some f) (hfn : Tryd.pinned.checked.prog.funcs[f]? = some fn) :
    true = Tryd.pinned.checked.prog.looks [] ∧ ∀ (j : Nat) t, fn.params[j]? = some t → Tryd.pinned.checked.prog.wantsStandIn t = false := by
  obtain rfl : f = 3 := Option.some.inj ((show Tryd.prog.funcNamed "loop.example/alidade/laws.FnExactSpotDist" = some 3 by kernel_rfl).symm.trans hf) |>.symm
  obtain rfl : fn = Tryd.f3 := (Option.some.inj (Tryd.func3.symm.trans hfn)).symm
  refine ⟨by kernel_rfl, fun j t ht => ?_⟩
  rw [Tryd.params3] at ht
  have hm : t ∈ [23, 23] := by
    have := Array.mem_of_getElem? ht
    simpa using this
  have hall : ([23, 23].all fun u => !Tryd.prog.wantsStandIn u) = true := by kernel_rfl
  exact (show Tryd.prog.wantsStandIn t = false by simpa using List.all_eq_true.1 hall t hm)

theorem card : Rows.FnExactSpotDistCardSaid :=
  Claim7.holds_tied_plain_at .later [] _ _ _ _ said (fun _ h => by cases h) (by kernel_rfl) (fun _ h => by cases h) fnExactSpotDist_row_tie rfl ⟨rfl, rfl⟩ (by kernel_rfl) rfl plain (by kernel_rfl)
end Go.Proofs.YtfdkpcejjcifgauDoor.fnExactSpotDist
namespace Go.Proofs.YtfdkpcejjcifgauDoor
theorem fnExactSpotDist_holds : Rows.FnExactSpotDistCardSaid := fnExactSpotDist.card
#print axioms fnExactSpotDist_holds
end Go.Proofs.YtfdkpcejjcifgauDoor
