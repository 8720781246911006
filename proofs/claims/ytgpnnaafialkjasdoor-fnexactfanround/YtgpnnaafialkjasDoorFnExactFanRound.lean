/-
  At every fan and two ints impl.FanRound answers as the specification's FanRound, and the law returns true. No conditions beyond the row's own: the package's error is the one that its start made.
-/
import Derived.Test.YtgpnnaafialkjasDoorCards
import Derived.Test.YtgpnnaafialkjasDoorTie
import Derived.Test.YtgpnnaafialkjasDoorDoorKit
import Derived.WalkKit
import Derived.ProofKit
import Derived.OpenShut
import Derived.ShutString
import Derived.ChangeOld
import Derived.Below
import Derived.LaidMore
import Derived.Stop.Joined
import Derived.SevenTiedAt
import Derived.Test.YtgpnnaafialkjasDoorFanImpl
import Derived.Test.YtgpnnaafialkjasDoorFanExact
namespace Go.Proofs.YtgpnnaafialkjasDoor.fnExactFanRound
open Go.ChangeShapes Go.WideShapes Go.ChangeAt Go.RowKit Go.Sort
set_option linter.unusedVariables false

theorem own : ownKnob Tryd.prog.godebug = none := by kernel_rfl
theorem laidOut : laidOutB Tryd.prog = true := by kernel_rfl
set_option maxHeartbeats 8000000 in

set_option maxHeartbeats 8000000 in
theorem walk (x0 y0 : Int) (n1 : Int) (n2 : Int) (sa : Addr) (w : World)  (hs : SW.Sn sa w) :
    Calls Tryd.prog 3 #[.agg #[.int .i64 x0, .int .i64 y0], .int .i64 n1, .int .i64 n2] w fun e w' => e = .returned (.bool true) ∧ Below w.heap.size w w' := by
  have hspec := fun w => SK.sFanRound_any x0 y0 n1 n2 w
  have himpl := fun w (hs : SW.Sn sa w) => SK.fanRound_any x0 y0 n1 n2 sa w hs
  generalize SK.frV x0 y0 n1 n2 = v at *
  generalize SK.frB x0 y0 n1 n2 = c at *
  have X := SK.Box.new w x0 y0 23
  have B := SK.below_new w (.cells #[.int .i64 x0, .int .i64 y0] 23)
  replace hs := hs.alloc (.cells #[.int .i64 x0, .int .i64 y0] 23)
  go_enter Tryd.func3, Tryd.ntmps3
  go_wp2_with fail
  refine (EF.toFan_any _ _ _).mono ?_
  rintro e w1 ⟨rfl, B1⟩
  replace X := X.kept B1
  replace B := SK.below1 B B1
  replace hs := hs.kept B1
  clear B1
  go_wp2_with fail
  refine (hspec _).mono ?_
  rintro e w2 ⟨rfl, B2⟩
  replace X := X.kept B2
  replace B := SK.below1 B B2
  replace hs := hs.kept B2
  clear B2 hspec
  have ⟨c0, c1, c2, c3⟩ := X
  go_wp2_with fail
  refine (EF.toFan_any _ _ _).mono ?_
  rintro e w3 ⟨rfl, B3⟩
  clear c0 c1 c2 c3
  replace B := SK.below1 B B3
  replace hs := hs.kept B3
  clear B3
  go_wp2_with fail
  refine (himpl _ hs).mono ?_
  rintro e w4 ⟨rfl, B4⟩
  replace B := SK.below1 B B4
  clear B4 himpl hs
  go_wp2
  go_ret
  exact ⟨rfl, B⟩

set_option maxRecDepth 100000 in
theorem lifted (os : Os) (started : os.Started) (H : Type) (enc : TypeId × Value → H) :
    ReturnsInHanded {} Tryd.checked os 3 .any (fun w args => (Rows.fnExactFanRoundSpec.pre enc Tryd.prog Tryd.f3 [] false w args ∧ laidMetH Tryd.prog DR.laid1 w) ∧ sizedMet enc Tryd.prog Tryd.f3 (OpenSpec.ofChange Rows.fnExactFanRoundSpec) false w args)
      (Rows.fnExactFanRoundSpec.post enc Tryd.prog Tryd.f3 false true false false) := by
  refine returnsInHanded_of_change_and (C := Tryd.checked) (X := fun w _ => laidMetH Tryd.prog DR.laid1 w) (fun _ _ _ hh h => h.of_heap hh) own started (by kernel_rfl) Tryd.func3
    (ChangeSpec.witness_shaped (enc := enc) (C := Tryd.checked) (os := os) (X := fun w _ => laidMetH Tryd.prog DR.laid1 w) false (World.doorLaid Tryd.prog 400 os) #[.agg #[.int .i64 0, .int .i64 0], .int .i64 0, .int .i64 0] 8 rfl (World.shaped_of_RefB (by kernel_rfl) (by kernel_rfl)) (by kernel_rfl) (by kernel_rfl) (by kernel_rfl) (DR.door_met os _)) ?_
  intro W base args ds gs before hval0 hW _ _ hL _
  have hval : ∀ (j : Nat) t v, Tryd.f3.params[j]? = some t → args[j]? = some v → Value.okWide Tryd.prog W .any base t v := hval0
  have hW' := hW
  obtain ⟨p, q, hA0, hV, rfl, hfz, hnd⟩ := hW
  have hA : DataW.TrodAll enc Tryd.prog W 0 (fun _ => true) true Tryd.f3.params.toList args.toList ds p := hA0
  rw [Tryd.params3] at hA hval
  obtain ⟨v0, vs0, d0, ds0, p0, q0, hargs0, rfl, rfl, h0, r0⟩ := trodAll_cons hA
  obtain ⟨v1, vs1, d1, ds1, p1, q1, hargs1, rfl, rfl, h1, r1⟩ := trodAll_cons r0
  obtain ⟨v2, vs2, d2, ds2, p2, q2, hargs2, rfl, rfl, h2, r2⟩ := trodAll_cons r1
  obtain ⟨rfl, rfl, rfl⟩ := trodAll_nil r2
  obtain rfl : args = #[v0, v1, v2] := by cases args; simp_all
  obtain ⟨sa, hv, hs⟩ := DR.of_laid hL
  obtain ⟨rfl, rfl⟩ := DataW.TrodVars.unique hV (DR.vars_read enc hv _)
  obtain ⟨x0, y0, rfl, rfl, rfl, wx0, wy0⟩ := EF.open_fan (hval 0 23 v0 rfl rfl) h0
  obtain ⟨n1, rfl, rfl, rfl, wf1⟩ := open_int Tryd.underlying3 (hval 1 3 v1 rfl rfl) h1
  obtain ⟨n2, rfl, rfl, rfl, wf2⟩ := open_int Tryd.underlying3 (hval 2 3 v2 rfl rfl) h2
  clear hA0 hval0
  refine (walk x0 y0 n1 n2 sa W  hs).mono fun e W' ⟨he, bel⟩ => ?_
  subst he
  exact ⟨_, rfl, _, _, _, [], _, [.cell 0 0], hW', trodAll_mk1 (shut_bool Tryd.underlying4 _), (trodAll_cons_mk (EF.shut_fan wx0 wy0) (trodAll_cons_mk (shut_int Tryd.underlying3 wf1) (trodAll_cons_mk (shut_int Tryd.underlying3 wf2) trodAll_mk0))), DR.vars_read enc (DR.var_below hv bel) _, bel.frame _, fun h => by cases h⟩

theorem said : Rows.FnExactFanRoundSaid :=
  OpenClaim.holds_of_wide 3 Tryd.f3 rfl rfl rfl rfl rfl rfl rfl ⟨rfl, rfl, rfl, rfl, rfl⟩ rfl rfl rfl rfl rfl (by kernel_rfl) Tryd.func3 (by kernel_rfl)
    (of_decide_eq_true (by kernel_rfl)) (by unfold Func.isWrapper; first | (rw [if_pos (by decide +kernel)]; kernel_rfl) | (rw [if_neg (by decide +kernel)]; exact ⟨rfl, rfl⟩))
    (fun os started H enc _ => lifted os started H enc)

theorem plain (f : FuncId) (fn : Func) (hf : Tryd.pinned.checked.prog.funcNamed "loop.example/alidade/laws.FnExactFanRound" = some f) (hfn : Tryd.pinned.checked.prog.funcs[f]? = some fn) :
    true = Tryd.pinned.checked.prog.looks [] ∧ ∀ (j : Nat) t, fn.params[j]? = some t → Tryd.pinned.checked.prog.wantsStandIn t = false := by
  obtain rfl : f = 3 := Option.some.inj ((show Tryd.prog.funcNamed "loop.example/alidade/laws.FnExactFanRound" = some 3 by kernel_rfl).symm.trans hf) |>.symm
  obtain rfl : fn = Tryd.f3 := (Option.some.inj (Tryd.func3.symm.trans hfn)).symm
  refine ⟨by kernel_rfl, fun j t ht => ?_⟩
  rw [Tryd.params3] at ht
  have hm : t ∈ [23, 3, 3] := by
    have := Array.mem_of_getElem? ht
    simpa using this
  have hall : ([23, 3, 3].all fun u => !Tryd.prog.wantsStandIn u) = true := by kernel_rfl
  exact (show Tryd.prog.wantsStandIn t = false by simpa using List.all_eq_true.1 hall t hm)

theorem card : Rows.FnExactFanRoundCardSaid :=
  Claim7.holds_tied_plain_at .later [] _ _ _ _ said (fun _ h => by cases h) (by kernel_rfl) (fun _ h => by cases h) fnExactFanRound_row_tie rfl ⟨rfl, rfl⟩ (by kernel_rfl) rfl plain (by kernel_rfl)
end Go.Proofs.YtgpnnaafialkjasDoor.fnExactFanRound
namespace Go.Proofs.YtgpnnaafialkjasDoor
theorem fnExactFanRound_holds : Rows.FnExactFanRoundCardSaid := fnExactFanRound.card
#print axioms fnExactFanRound_holds
end Go.Proofs.YtgpnnaafialkjasDoor
