/-
  At every span impl.SureSign answers as the specification's SureSign, and the law returns true. The package's variable errTooGreat is as the program's text lays it.
-/
import Derived.Test.YtldogjldnckdmayDoorCards
import Derived.Test.YtldogjldnckdmayDoorTie
import Derived.Test.YtldogjldnckdmayDoorDoorKit
import Derived.WalkKit
import Derived.ProofKit
import Derived.OpenShut
import Derived.ShutString
import Derived.ChangeOld
import Derived.Below
import Derived.LaidMore
import Derived.Stop.Joined
import Derived.SevenTiedAt
import Derived.Test.YtldogjldnckdmayDoorExactKit
import Derived.Test.YtldogjldnckdmayDoorSpanWalks
import Derived.Test.YtldogjldnckdmayDoorSureMath
import Derived.Test.YtldogjldnckdmayDoorSureWalks
namespace Go.Proofs.YtldogjldnckdmayDoor.fnExactSureSign
open Go.ChangeShapes Go.WideShapes Go.ChangeAt Go.RowKit Go.Sort
set_option linter.unusedVariables false

theorem own : ownKnob Tryd.prog.godebug = none := by kernel_rfl
theorem laidOut : laidOutB Tryd.prog = true := by kernel_rfl
theorem pair (x0 y0 : Int) (sa : Addr) : ∃ (n : Int) (c : Bool), (∀ w, Calls Tryd.prog 11 #[SW.spV x0 y0] w fun e w' => e = .returned (.tuple #[.int .i64 n, .bool c]) ∧ Below w.heap.size w w') ∧ ∀ w, SW.Sn sa w → Calls Tryd.prog 12 #[SW.spV x0 y0] w fun e w' => e = .returned (.tuple #[.int .i64 n, .bool c]) ∧ Below w.heap.size w w' :=
  ⟨_, _, fun w => SW.sSureSign_any x0 y0 w, fun w hs => SW.sureSign_any x0 y0 sa w hs⟩

set_option maxHeartbeats 8000000 in
theorem walk (x0 y0 : Int) (bx0 : -9223372036854775808 ≤ x0) (by0 : x0 ≤ 9223372036854775807) (cx0 : -9223372036854775808 ≤ y0) (cy0 : y0 ≤ 9223372036854775807) (sa : Addr) (w : World)  (hs : SW.Sn sa w) :
    Calls Tryd.prog 5 #[.agg #[.int .i64 x0, .int .i64 y0]] w fun e w' => e = .returned (.bool true) ∧ Below w.heap.size w w' := by
  obtain ⟨n, c, hspec, himpl⟩ := pair x0 y0 sa
  clear bx0 by0 cx0 cy0
  go_enter Tryd.func5, Tryd.ntmps5
  go_wp2_with fail
  refine (EK.toSpan_any _ _ _).mono ?_
  rintro e w1 ⟨rfl, B1⟩
  have S := (EK.Box.par w x0 y0).kept B1
  have B := SW.below1 (SW.below_new w _) B1
  clear B1
  go_wp2_with fail
  refine (hspec _).mono ?_
  rintro e w2 ⟨rfl, B2⟩
  replace S := S.kept B2
  replace B := SW.below1 B B2
  clear B2 hspec
  obtain ⟨s0, s1, s2, s3⟩ := S
  have hs2 := hs.kept B
  go_wp2_with fail
  refine (EK.toSpan_any _ _ _).mono ?_
  rintro e w3 ⟨rfl, B3⟩
  replace hs2 := hs2.kept B3
  replace B := SW.below1 B B3
  clear B3
  go_wp2_with fail
  refine (himpl _ hs2).mono ?_
  rintro e w4 ⟨rfl, B4⟩
  replace B := SW.below1 B B4
  clear B4 himpl
  go_wp2
  go_ret
  exact ⟨rfl, B⟩

set_option maxRecDepth 100000 in
theorem lifted (os : Os) (started : os.Started) (H : Type) (enc : TypeId × Value → H) :
    ReturnsInHanded {} Tryd.checked os 5 .any (fun w args => (Rows.fnExactSureSignSpec.pre enc Tryd.prog Tryd.f5 [] false w args ∧ laidMetH Tryd.prog DR.laid1 w) ∧ sizedMet enc Tryd.prog Tryd.f5 (OpenSpec.ofChange Rows.fnExactSureSignSpec) false w args)
      (Rows.fnExactSureSignSpec.post enc Tryd.prog Tryd.f5 false true false false) := by
  refine returnsInHanded_of_change_and (C := Tryd.checked) (X := fun w _ => laidMetH Tryd.prog DR.laid1 w) (fun _ _ _ hh h => h.of_heap hh) own started (by kernel_rfl) Tryd.func5
    (ChangeSpec.witness_shaped (enc := enc) (C := Tryd.checked) (os := os) (X := fun w _ => laidMetH Tryd.prog DR.laid1 w) false (World.doorLaid Tryd.prog 400 os) #[.agg #[.int .i64 0, .int .i64 0]] 8 rfl (World.shaped_of_RefB (by kernel_rfl) (by kernel_rfl)) (by kernel_rfl) (by kernel_rfl) (by kernel_rfl) (DR.door_met os _)) ?_
  intro W base args ds gs before hval0 hW _ _ hL _
  have hval : ∀ (j : Nat) t v, Tryd.f5.params[j]? = some t → args[j]? = some v → Value.okWide Tryd.prog W .any base t v := hval0
  have hW' := hW
  obtain ⟨p, q, hA0, hV, rfl, hfz, hnd⟩ := hW
  have hA : DataW.TrodAll enc Tryd.prog W 0 (fun _ => true) true Tryd.f5.params.toList args.toList ds p := hA0
  rw [Tryd.params5] at hA hval
  obtain ⟨v0, vs0, d0, ds0, p0, q0, hargs0, rfl, rfl, h0, r0⟩ := trodAll_cons hA
  obtain ⟨rfl, rfl, rfl⟩ := trodAll_nil r0
  obtain rfl : args = #[v0] := by cases args; simp_all
  obtain ⟨sa, hv, hs⟩ := DR.of_laid hL
  obtain ⟨rfl, rfl⟩ := DataW.TrodVars.unique hV (DR.vars_read enc hv _)
  obtain ⟨x0, y0, rfl, rfl, rfl, wx0, wy0⟩ := EK.open_span (hval 0 23 v0 rfl rfl) h0
  obtain ⟨bx0, by0⟩ := EK.bounds wx0
  obtain ⟨cx0, cy0⟩ := EK.bounds wy0
  clear hA0 hval0
  refine (walk x0 y0 bx0 by0 cx0 cy0 sa W  hs).mono fun e W' ⟨he, bel⟩ => ?_
  subst he
  exact ⟨_, rfl, _, _, _, [], _, [.cell 0 0], hW', trodAll_mk1 (shut_bool Tryd.underlying4 _), (trodAll_cons_mk (EK.shut_span wx0 wy0) trodAll_mk0), DR.vars_read enc (DR.var_below hv bel) _, bel.frame _, fun h => by cases h⟩

theorem said : Rows.FnExactSureSignSaid :=
  OpenClaim.holds_of_wide 5 Tryd.f5 rfl rfl rfl rfl rfl rfl rfl ⟨rfl, rfl, rfl, rfl, rfl⟩ rfl rfl rfl rfl rfl (by kernel_rfl) Tryd.func5 (by kernel_rfl)
    (of_decide_eq_true (by kernel_rfl)) (by unfold Func.isWrapper; first | (rw [if_pos (by decide +kernel)]; kernel_rfl) | (rw [if_neg (by decide +kernel)]; exact ⟨rfl, rfl⟩))
    (fun os started H enc _ => lifted os started H enc)

theorem plain (f : FuncId) (fn : Func) (hf : Tryd.pinned.checked.prog.funcNamed "loop.example/alidade/laws.FnExactSureSign" = some f) (hfn : Tryd.pinned.checked.prog.funcs[f]? = some fn) :
    true = Tryd.pinned.checked.prog.looks [] ∧ ∀ (j : Nat) t, fn.params[j]? = some t → Tryd.pinned.checked.prog.wantsStandIn t = false := by
  obtain rfl : f = 5 := Option.some.inj ((show Tryd.prog.funcNamed "loop.example/alidade/laws.FnExactSureSign" = some 5 by kernel_rfl).symm.trans hf) |>.symm
  obtain rfl : fn = Tryd.f5 := (Option.some.inj (Tryd.func5.symm.trans hfn)).symm
  refine ⟨by kernel_rfl, fun j t ht => ?_⟩
  rw [Tryd.params5] at ht
  have hm : t ∈ [23] := by
    have := Array.mem_of_getElem? ht
    simpa using this
  have hall : ([23].all fun u => !Tryd.prog.wantsStandIn u) = true := by kernel_rfl
  exact (show Tryd.prog.wantsStandIn t = false by simpa using List.all_eq_true.1 hall t hm)

theorem card : Rows.FnExactSureSignCardSaid :=
  Claim7.holds_tied_plain_at .later [] _ _ _ _ said (fun _ h => by cases h) (by kernel_rfl) (fun _ h => by cases h) fnExactSureSign_row_tie rfl ⟨rfl, rfl⟩ (by kernel_rfl) rfl plain (by kernel_rfl)
end Go.Proofs.YtldogjldnckdmayDoor.fnExactSureSign
namespace Go.Proofs.YtldogjldnckdmayDoor
theorem fnExactSureSign_holds : Rows.FnExactSureSignCardSaid := fnExactSureSign.card
#print axioms fnExactSureSign_holds
end Go.Proofs.YtldogjldnckdmayDoor
