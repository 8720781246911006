/-
  At every two numbers impl.SpanOf answers as the specification's SpanOf, and the law returns true. The package's variable errTooGreat is as the program's text lays it.
-/
import Derived.Test.YtpddpekenccclavDoorCards
import Derived.Test.YtpddpekenccclavDoorTie
import Derived.Test.YtpddpekenccclavDoorDoorKit
import Derived.WalkKit
import Derived.ProofKit
import Derived.OpenShut
import Derived.ShutString
import Derived.ChangeOld
import Derived.Below
import Derived.LaidMore
import Derived.Stop.Joined
import Derived.SevenTiedAt
import Derived.Test.YtpddpekenccclavDoorExactKit
import Derived.Test.YtpddpekenccclavDoorSpanWalks
namespace Go.Proofs.YtpddpekenccclavDoor.fnExactSpanOf
open Go.ChangeShapes Go.WideShapes Go.ChangeAt Go.RowKit Go.Sort
set_option linter.unusedVariables false

theorem own : ownKnob Tryd.prog.godebug = none := by kernel_rfl
theorem laidOut : laidOutB Tryd.prog = true := by kernel_rfl
theorem pair (n0 n1 : Int) (sa : Addr) : ∃ (lo hi : Int) (c : Bool), (∀ w, Calls Tryd.prog 11 #[.int .i64 n0, .int .i64 n1] w fun e w' => e = .returned (.tuple #[SW.spV lo hi, .bool c]) ∧ Below w.heap.size w w') ∧ ∀ w, SW.Sn sa w → Calls Tryd.prog 12 #[.int .i64 n0, .int .i64 n1] w fun e w' => e = .returned (.tuple #[SW.spV lo hi, .bool c]) ∧ Below w.heap.size w w' :=
  ⟨_, _, _, fun w => SW.sSpanOf_any n0 n1 w, fun w hs => SW.spanOf_any n0 n1 sa w hs⟩

set_option maxHeartbeats 8000000 in
theorem walk (n0 : Int) (n1 : Int) (sa : Addr) (w : World)  (hs : SW.Sn sa w) :
    Calls Tryd.prog 4 #[.int .i64 n0, .int .i64 n1] w fun e w' => e = .returned (.bool true) ∧ Below w.heap.size w w' := by
  obtain ⟨lo, hi, c, hspec, himpl⟩ := pair n0 n1 sa
  go_enter Tryd.func4, Tryd.ntmps4
  go_wp2_with fail
  refine (hspec _).mono ?_
  rintro e w2 ⟨rfl, B⟩
  have X := SW.Box.new w2 lo hi 25
  replace B := SW.below1 B (SW.below_new w2 (.cells #[.int .i64 lo, .int .i64 hi] 25))
  have hs2 := hs.kept B
  clear hspec
  go_wp2_with fail
  refine (himpl _ hs2).mono ?_
  rintro e w4 ⟨rfl, B4⟩
  obtain ⟨c0, c1, c2, c3⟩ := (X.kept B4).alloc (.cells #[.int .i64 lo, .int .i64 hi] 25)
  replace B := SW.below1 (SW.below1 B B4) (SW.below_new w4 (.cells #[.int .i64 lo, .int .i64 hi] 25))
  clear B4 himpl X
  go_wp2_with fail
  refine (EK.eqSpan_same _ _ _).mono ?_
  rintro e w5 ⟨rfl, B5⟩
  replace B := SW.below1 B B5
  clear B5
  go_wp2
  go_ret
  exact ⟨rfl, B⟩

set_option maxRecDepth 100000 in
theorem lifted (os : Os) (started : os.Started) (H : Type) (enc : TypeId × Value → H) :
    ReturnsInHanded {} Tryd.checked os 4 .any (fun w args => (Rows.fnExactSpanOfSpec.pre enc Tryd.prog Tryd.f4 [] false w args ∧ laidMetH Tryd.prog DR.laid1 w) ∧ sizedMet enc Tryd.prog Tryd.f4 (OpenSpec.ofChange Rows.fnExactSpanOfSpec) false w args)
      (Rows.fnExactSpanOfSpec.post enc Tryd.prog Tryd.f4 false true false false) := by
  refine returnsInHanded_of_change_and (C := Tryd.checked) (X := fun w _ => laidMetH Tryd.prog DR.laid1 w) (fun _ _ _ hh h => h.of_heap hh) own started (by kernel_rfl) Tryd.func4
    (ChangeSpec.witness_shaped (enc := enc) (C := Tryd.checked) (os := os) (X := fun w _ => laidMetH Tryd.prog DR.laid1 w) false (World.doorLaid Tryd.prog 400 os) #[.int .i64 0, .int .i64 0] 8 rfl (World.shaped_of_RefB (by kernel_rfl) (by kernel_rfl)) (by kernel_rfl) (by kernel_rfl) (by kernel_rfl) (DR.door_met os _)) ?_
  intro W base args ds gs before hval0 hW _ _ hL _
  have hval : ∀ (j : Nat) t v, Tryd.f4.params[j]? = some t → args[j]? = some v → Value.okWide Tryd.prog W .any base t v := hval0
  have hW' := hW
  obtain ⟨p, q, hA0, hV, rfl, hfz, hnd⟩ := hW
  have hA : DataW.TrodAll enc Tryd.prog W 0 (fun _ => true) true Tryd.f4.params.toList args.toList ds p := hA0
  rw [Tryd.params4] at hA hval
  obtain ⟨v0, vs0, d0, ds0, p0, q0, hargs0, rfl, rfl, h0, r0⟩ := trodAll_cons hA
  obtain ⟨v1, vs1, d1, ds1, p1, q1, hargs1, rfl, rfl, h1, r1⟩ := trodAll_cons r0
  obtain ⟨rfl, rfl, rfl⟩ := trodAll_nil r1
  obtain rfl : args = #[v0, v1] := by cases args; simp_all
  obtain ⟨sa, hv, hs⟩ := DR.of_laid hL
  obtain ⟨rfl, rfl⟩ := DataW.TrodVars.unique hV (DR.vars_read enc hv _)
  obtain ⟨n0, rfl, rfl, rfl, wf0⟩ := open_int Tryd.underlying3 (hval 0 3 v0 rfl rfl) h0
  obtain ⟨n1, rfl, rfl, rfl, wf1⟩ := open_int Tryd.underlying3 (hval 1 3 v1 rfl rfl) h1
  clear hA0 hval0
  refine (walk n0 n1 sa W  hs).mono fun e W' ⟨he, bel⟩ => ?_
  subst he
  exact ⟨_, rfl, _, _, _, [], _, [.cell 0 0], hW', trodAll_mk1 (shut_bool Tryd.underlying4 _), (trodAll_cons_mk (shut_int Tryd.underlying3 wf0) (trodAll_cons_mk (shut_int Tryd.underlying3 wf1) trodAll_mk0)), DR.vars_read enc (DR.var_below hv bel) _, bel.frame _, fun h => by cases h⟩

theorem said : Rows.FnExactSpanOfSaid :=
  OpenClaim.holds_of_wide 4 Tryd.f4 rfl rfl rfl rfl rfl rfl rfl ⟨rfl, rfl, rfl, rfl, rfl⟩ rfl rfl rfl rfl rfl (by kernel_rfl) Tryd.func4 (by kernel_rfl)
    (of_decide_eq_true (by kernel_rfl)) (by unfold Func.isWrapper; first | (rw [if_pos (by decide +kernel)]; kernel_rfl) | (rw [if_neg (by decide +kernel)]; exact ⟨rfl, rfl⟩))
    (fun os started H enc _ => lifted os started H enc)

theorem plain (f : FuncId) (fn : Func) (hf : Tryd.pinned.checked.prog.funcNamed "loop.example/alidade/laws.FnExactSpanOf" = some f) (hfn : Tryd.pinned.checked.prog.funcs[f]? = some fn) :
    true = Tryd.pinned.checked.prog.looks [] ∧ ∀ (j : Nat) t, fn.params[j]? = some t → Tryd.pinned.checked.prog.wantsStandIn t = false := by
  obtain rfl : f = 4 := Option.some.inj ((show Tryd.prog.funcNamed "loop.example/alidade/laws.FnExactSpanOf" = some 4 by kernel_rfl).symm.trans hf) |>.symm
  obtain rfl : fn = Tryd.f4 := (Option.some.inj (Tryd.func4.symm.trans hfn)).symm
  refine ⟨by kernel_rfl, fun j t ht => ?_⟩
  rw [Tryd.params4] at ht
  have hm : t ∈ [3] := by
    have := Array.mem_of_getElem? ht
    simpa using this
  have hall : ([3].all fun u => !Tryd.prog.wantsStandIn u) = true := by kernel_rfl
  exact (show Tryd.prog.wantsStandIn t = false by simpa using List.all_eq_true.1 hall t hm)

theorem card : Rows.FnExactSpanOfCardSaid :=
  Claim7.holds_tied_plain_at .later [] _ _ _ _ said (fun _ h => by cases h) (by kernel_rfl) (fun _ h => by cases h) fnExactSpanOf_row_tie rfl ⟨rfl, rfl⟩ (by kernel_rfl) rfl plain (by kernel_rfl)
end Go.Proofs.YtpddpekenccclavDoor.fnExactSpanOf
namespace Go.Proofs.YtpddpekenccclavDoor
theorem fnExactSpanOf_holds : Rows.FnExactSpanOfCardSaid := fnExactSpanOf.card
#print axioms fnExactSpanOf_holds
end Go.Proofs.YtpddpekenccclavDoor
