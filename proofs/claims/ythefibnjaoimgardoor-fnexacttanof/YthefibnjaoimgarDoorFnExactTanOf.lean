/-
  At every int impl.TanOf answers as the specification's TanOf (a span with the tangent of the angle in it and true, or nothing and false), and the law returns true. The package's variable errTooGreat is as the program's text lays it.
-/
import Derived.Test.YthefibnjaoimgarDoorCards
import Derived.Test.YthefibnjaoimgarDoorTie
import Derived.Test.YthefibnjaoimgarDoorDoorKit
import Derived.WalkKit
import Derived.ProofKit
import Derived.OpenShut
import Derived.ShutString
import Derived.ChangeOld
import Derived.Below
import Derived.LaidMore
import Derived.Stop.Joined
import Derived.SevenTiedAt
import Derived.Test.YthefibnjaoimgarDoorSineExact
import Derived.Test.YthefibnjaoimgarDoorTanWalks
namespace Go.Proofs.YthefibnjaoimgarDoor.fnExactTanOf
open Go.ChangeShapes Go.WideShapes Go.ChangeAt Go.RowKit Go.Sort
set_option linter.unusedVariables false

theorem own : ownKnob Tryd.prog.godebug = none := by kernel_rfl
theorem laidOut : laidOutB Tryd.prog = true := by kernel_rfl
theorem pair (x0 : Int) (sa : Addr) : ∃ (lo hi : Int) (c : Bool), (∀ w, Calls Tryd.prog 4 #[.int .i64 x0] w fun e w' => e = .returned (.tuple #[SK.spV lo hi, .bool c]) ∧ Below w.heap.size w w') ∧ ∀ w, SW.Sn sa w → Calls Tryd.prog 5 #[.int .i64 x0] w fun e w' => e = .returned (.tuple #[SK.spV lo hi, .bool c]) ∧ Below w.heap.size w w' :=
  ⟨_, _, _, fun w => SK.sTanOf_any x0 w, fun w hs => SK.tanOf_any x0 sa w hs⟩

set_option maxHeartbeats 8000000 in
theorem walk (n0 : Int) (sa : Addr) (w : World)  (hs : SW.Sn sa w) :
    Calls Tryd.prog 3 #[.int .i64 n0] w fun e w' => e = .returned (.bool true) ∧ Below w.heap.size w w' := by
  obtain ⟨lo, hi, c, hspec, himpl⟩ := pair n0 sa
  go_enter Tryd.func3, Tryd.ntmps3
  go_wp2_with fail
  refine (hspec _).mono ?_
  rintro e w1 ⟨rfl, B1⟩
  have X := SK.Box.new w1 lo hi 23
  have B := SK.below1 B1 (SK.below_new w1 (.cells #[.int .i64 lo, .int .i64 hi] 23))
  have hs2 := hs.kept B
  clear B1 hspec
  go_wp2_with fail
  refine (himpl _ hs2).mono ?_
  rintro e w2 ⟨rfl, B2⟩
  obtain ⟨c0, c1, c2, c3⟩ := (X.kept B2).alloc (.cells #[.int .i64 lo, .int .i64 hi] 23)
  replace B := SK.below1 (SK.below1 B B2) (SK.below_new w2 (.cells #[.int .i64 lo, .int .i64 hi] 23))
  clear B2 himpl X
  go_wp2_with fail
  refine (SK.eqSpan_same _ _ _).mono ?_
  rintro e w3 ⟨rfl, B3⟩
  replace B := SK.below1 B B3
  clear B3
  go_wp2
  go_ret
  exact ⟨rfl, B⟩

set_option maxRecDepth 100000 in
theorem lifted (os : Os) (started : os.Started) (H : Type) (enc : TypeId × Value → H) :
    ReturnsInHanded {} Tryd.checked os 3 .any (fun w args => (Rows.fnExactTanOfSpec.pre enc Tryd.prog Tryd.f3 [] false w args ∧ laidMetH Tryd.prog DR.laid1 w) ∧ sizedMet enc Tryd.prog Tryd.f3 (OpenSpec.ofChange Rows.fnExactTanOfSpec) false w args)
      (Rows.fnExactTanOfSpec.post enc Tryd.prog Tryd.f3 false true false false) := by
  refine returnsInHanded_of_change_and (C := Tryd.checked) (X := fun w _ => laidMetH Tryd.prog DR.laid1 w) (fun _ _ _ hh h => h.of_heap hh) own started (by kernel_rfl) Tryd.func3
    (ChangeSpec.witness_shaped (enc := enc) (C := Tryd.checked) (os := os) (X := fun w _ => laidMetH Tryd.prog DR.laid1 w) false (World.doorLaid Tryd.prog 400 os) #[.int .i64 0] 8 rfl (World.shaped_of_RefB (by kernel_rfl) (by kernel_rfl)) (by kernel_rfl) (by kernel_rfl) (by kernel_rfl) (DR.door_met os _)) ?_
  intro W base args ds gs before hval0 hW _ _ hL _
  have hval : ∀ (j : Nat) t v, Tryd.f3.params[j]? = some t → args[j]? = some v → Value.okWide Tryd.prog W .any base t v := hval0
  have hW' := hW
  obtain ⟨p, q, hA0, hV, rfl, hfz, hnd⟩ := hW
  have hA : DataW.TrodAll enc Tryd.prog W 0 (fun _ => true) true Tryd.f3.params.toList args.toList ds p := hA0
  rw [Tryd.params3] at hA hval
  obtain ⟨v0, vs0, d0, ds0, p0, q0, hargs0, rfl, rfl, h0, r0⟩ := trodAll_cons hA
  obtain ⟨rfl, rfl, rfl⟩ := trodAll_nil r0
  obtain rfl : args = #[v0] := by cases args; simp_all
  obtain ⟨sa, hv, hs⟩ := DR.of_laid hL
  obtain ⟨rfl, rfl⟩ := DataW.TrodVars.unique hV (DR.vars_read enc hv _)
  obtain ⟨n0, rfl, rfl, rfl, wf0⟩ := open_int Tryd.underlying3 (hval 0 3 v0 rfl rfl) h0
  clear hA0 hval0
  refine (walk n0 sa W  hs).mono fun e W' ⟨he, bel⟩ => ?_
  subst he
  exact ⟨_, rfl, _, _, _, [], _, [.cell 0 0], hW', trodAll_mk1 (shut_bool Tryd.underlying4 _), (trodAll_cons_mk (shut_int Tryd.underlying3 wf0) trodAll_mk0), DR.vars_read enc (DR.var_below hv bel) _, bel.frame _, fun h => by cases h⟩

theorem said : Rows.FnExactTanOfSaid :=
  OpenClaim.holds_of_wide 3 Tryd.f3 rfl rfl rfl rfl rfl rfl rfl ⟨rfl, rfl, rfl, rfl, rfl⟩ rfl rfl rfl rfl rfl (by kernel_rfl) Tryd.func3 (by kernel_rfl)
    (of_decide_eq_true (by kernel_rfl)) (by unfold Func.isWrapper; first | (rw [if_pos (by decide +kernel)]; kernel_rfl) | (rw [if_neg (by decide +kernel)]; exact ⟨rfl, rfl⟩))
    (fun os started H enc _ => lifted os started H enc)

theorem plain (f : FuncId) (fn : Func) (hf : Tryd.pinned.checked.prog.funcNamed "loop.example/alidade/laws.FnExactTanOf" = some f) (hfn : Tryd.pinned.checked.prog.funcs[f]? = some fn) :
    true = Tryd.pinned.checked.prog.looks [] ∧ ∀ (j : Nat) t, fn.params[j]? = some t → Tryd.pinned.checked.prog.wantsStandIn t = false := by
  obtain rfl : f = 3 := Option.some.inj ((show Tryd.prog.funcNamed "loop.example/alidade/laws.FnExactTanOf" = some 3 by kernel_rfl).symm.trans hf) |>.symm
  obtain rfl : fn = Tryd.f3 := (Option.some.inj (Tryd.func3.symm.trans hfn)).symm
  refine ⟨by kernel_rfl, fun j t ht => ?_⟩
  rw [Tryd.params3] at ht
  have hm : t ∈ [3] := by
    have := Array.mem_of_getElem? ht
    simpa using this
  have hall : ([3].all fun u => !Tryd.prog.wantsStandIn u) = true := by kernel_rfl
  exact (show Tryd.prog.wantsStandIn t = false by simpa using List.all_eq_true.1 hall t hm)

theorem card : Rows.FnExactTanOfCardSaid :=
  Claim7.holds_tied_plain_at .later [] _ _ _ _ said (fun _ h => by cases h) (by kernel_rfl) (fun _ h => by cases h) fnExactTanOf_row_tie rfl ⟨rfl, rfl⟩ (by kernel_rfl) rfl plain (by kernel_rfl)
end Go.Proofs.YthefibnjaoimgarDoor.fnExactTanOf
namespace Go.Proofs.YthefibnjaoimgarDoor
theorem fnExactTanOf_holds : Rows.FnExactTanOfCardSaid := fnExactTanOf.card
#print axioms fnExactTanOf_holds
end Go.Proofs.YthefibnjaoimgarDoor
