/-
  At every fan and int impl.FanHas answers as the specification's FanHas, and the law returns true. No conditions.
-/
import Derived.Test.YtgpnnaafialkjasRows
import Derived.WalkKit
import Derived.ProofKit
import Derived.OpenShut
import Derived.Test.YtgpnnaafialkjasFanWalks
import Derived.Test.YtgpnnaafialkjasFanExact
import Derived.Below
namespace Go.Proofs.Ytgpnnaafialkjas.fnExactFanHas
open Go.ChangeShapes Go.WideShapes Go.ChangeAt Go.RowKit
set_option linter.unusedVariables false

theorem own : ownKnob Try.prog.godebug = none := by kernel_rfl

set_option maxHeartbeats 8000000 in
theorem walk (x0 y0 : Int) (n1 : Int) (w : World) :
    Calls Try.prog 6 #[.agg #[.int .i64 x0, .int .i64 y0], .int .i64 n1] w fun e w' => e = .returned (.bool true) ∧ Below w.heap.size w w' := by
  have hspec := fun w => SK.sFanHas_any x0 y0 n1 w
  have himpl := fun w => SK.fanHas_any x0 y0 n1 w
  generalize SK.hasF x0 y0 n1 = c at *
  have X := SK.Box.new w x0 y0 30
  have B := SK.below_new w (.cells #[.int .i64 x0, .int .i64 y0] 30)
  go_enter Try.func6, Try.ntmps6
  go_wp2_with fail
  refine (EF.toFan_any _ _ _).mono ?_
  rintro e w1 ⟨rfl, B1⟩
  replace X := X.kept B1
  replace B := SK.below1 B B1
  clear B1
  go_wp2_with fail
  refine (hspec _).mono ?_
  rintro e w2 ⟨rfl, B2⟩
  replace X := X.kept B2
  replace B := SK.below1 B B2
  clear B2 hspec
  have ⟨c0, c1, c2, c3⟩ := X
  go_wp2_with fail
  refine (EF.toFan_any _ _ _).mono ?_
  rintro e w3 ⟨rfl, B3⟩
  clear c0 c1 c2 c3
  replace B := SK.below1 B B3
  clear B3
  go_wp2_with fail
  refine (himpl _).mono ?_
  rintro e w4 ⟨rfl, B4⟩
  replace B := SK.below1 B B4
  clear B4 himpl
  go_wp2
  go_ret
  exact ⟨rfl, B⟩

set_option maxRecDepth 100000 in
theorem lifted (os : Os) (started : os.Started) (H : Type) (enc : TypeId × Value → H) :
    ReturnsInHanded {} Try.checked os 6 .any (Rows.fnExactFanHasSpec.pre6 enc Try.prog Try.f6 Rows.fnExactFanHasRow.domain false) (Rows.fnExactFanHasSpec.post enc Try.prog Try.f6 false true false false) := by
  refine returnsInHanded_of_change (C := Try.checked) own started (by kernel_rfl) Try.func6
    (ChangeSpec.witness6 (enc := enc) (C := Try.checked) false ⟨#[], #[.agg #[.int .i64 0, .int .i64 0], .int .i64 0], []⟩ 8 (by kernel_rfl) (by kernel_rfl) (by kernel_rfl) (by kernel_rfl)) ?_
  intro W base args ds gs before hval0 hW hcnd _
  have hval : ∀ (j : Nat) t v, Try.f6.params[j]? = some t → args[j]? = some v → Value.okWide Try.prog W .any base t v := hval0
  have hW' := hW
  obtain ⟨p, q, hA0, hV, rfl, hfz, hnd⟩ := hW
  have hA : DataW.TrodAll enc Try.prog W 0 (fun _ => true) true Try.f6.params.toList args.toList ds p := hA0
  rw [Try.params6] at hA hval
  obtain ⟨v0, vs0, d0, ds0, p0, q0, hargs0, rfl, rfl, h0, r0⟩ := trodAll_cons hA
  obtain ⟨v1, vs1, d1, ds1, p1, q1, hargs1, rfl, rfl, h1, r1⟩ := trodAll_cons r0
  obtain ⟨rfl, rfl, rfl⟩ := trodAll_nil r1
  obtain rfl : args = #[v0, v1] := by cases args; simp_all
  obtain ⟨rfl, rfl⟩ := trodVars_none hV
  obtain ⟨x0, y0, rfl, rfl, rfl, wx0, wy0⟩ := EF.open_fan (hval 0 30 v0 rfl rfl) h0
  obtain ⟨n1, rfl, rfl, rfl, wf1⟩ := open_int Try.underlying3 (hval 1 3 v1 rfl rfl) h1
  clear hA0 hval0
  simp only [List.append_nil] at hW'
  refine (walk x0 y0 n1 W).mono fun e W' ⟨he, bel⟩ => ?_
  subst he
  exact ⟨_, rfl, _, _, _, [], _, [], hW', (trodAll_cons_mk (shut_bool Try.underlying4 _) trodAll_mk0), (trodAll_cons_mk (EF.shut_fan wx0 wy0) (trodAll_cons_mk (shut_int Try.underlying3 wf1) trodAll_mk0)), rfl, bel.frame _, fun h => by cases h⟩

theorem over : Rows.fnExactFanHasRow.holds Try.pinned (OpenSpec.ofChange Rows.fnExactFanHasSpec) :=
  OpenClaim.holds_of_wide 6 Try.f6 rfl rfl rfl rfl rfl rfl rfl ⟨rfl, rfl, rfl, rfl, rfl⟩ rfl rfl rfl rfl rfl (by kernel_rfl) Try.func6 (by kernel_rfl)
    (of_decide_eq_true (by kernel_rfl)) (by unfold Func.isWrapper; first | (rw [if_pos (by decide +kernel)]; kernel_rfl) | (rw [if_neg (by decide +kernel)]; exact ⟨rfl, rfl⟩))
    (fun os started H enc _ => lifted os started H enc)

theorem proved : Rows.FnExactFanHasSaid :=
  over
end Go.Proofs.Ytgpnnaafialkjas.fnExactFanHas
namespace Go.Proofs.Ytgpnnaafialkjas
theorem fnExactFanHas_holds : Rows.FnExactFanHasSaid := fnExactFanHas.proved
#print axioms fnExactFanHas_holds
end Go.Proofs.Ytgpnnaafialkjas
