/-
  At every argument impl.SpotText answers as the specification's SpotText, and the law returns true. No conditions.
-/
import Derived.Test.YtfdkpcejjcifgauRows
import Derived.WalkKit
import Derived.ProofKit
import Derived.OpenShut
import Derived.Test.YtfdkpcejjcifgauSpotTexts
import Derived.Test.YtfdkpcejjcifgauSpotExact
import Derived.Below
namespace Go.Proofs.Ytfdkpcejjcifgau.fnExactSpotText
open Go.ChangeShapes Go.WideShapes Go.ChangeAt Go.RowKit
set_option linter.unusedVariables false

theorem own : ownKnob Try.prog.godebug = none := by kernel_rfl

open Go.RowKit Go.Sort
theorem walk (x0 y0 : Int) (w : World) :
    Calls Try.prog 4 #[.agg #[.int .i64 x0, .int .i64 y0]] w fun e w' => e = .returned (.bool true) ∧ Below w.heap.size w w' := by
  have hspec := fun w => SK.sSpotText_any x0 y0 w
  have himpl := fun w => SK.spotText_any x0 y0 w
  generalize SK.spT x0 y0 = t at *
  have S0 := SK.Box.new w x0 y0 23
  have B := SK.below_new w (.cells #[.int .i64 x0, .int .i64 y0] 23)
  go_enter Try.func4, Try.ntmps4
  have ⟨S0c0, S0c1, S0f0, S0f1⟩ := S0
  go_wp2_with fail
  refine (EP.toSpot_any _ _ _).mono ?_
  rintro e v1 ⟨rfl, Bx⟩
  clear S0c0 S0c1 S0f0 S0f1
  replace S0 := S0.kept Bx
  replace B := SK.below1 B Bx
  clear Bx
  have ⟨S0c0, S0c1, S0f0, S0f1⟩ := S0
  go_wp2_with fail
  refine (hspec _).mono ?_
  rintro e v2 ⟨rfl, Bx⟩
  clear S0c0 S0c1 S0f0 S0f1
  replace S0 := S0.kept Bx
  replace B := SK.below1 B Bx
  clear Bx
  have ⟨S0c0, S0c1, S0f0, S0f1⟩ := S0
  go_wp2_with fail
  refine (EP.toSpot_any _ _ _).mono ?_
  rintro e v3 ⟨rfl, Bx⟩
  clear S0c0 S0c1 S0f0 S0f1
  replace S0 := S0.kept Bx
  replace B := SK.below1 B Bx
  clear Bx
  have ⟨S0c0, S0c1, S0f0, S0f1⟩ := S0
  go_wp2_with fail
  refine (himpl _).mono ?_
  rintro e v4 ⟨rfl, Bx⟩
  clear S0c0 S0c1 S0f0 S0f1
  replace S0 := S0.kept Bx
  replace B := SK.below1 B Bx
  clear Bx
  have ⟨S0c0, S0c1, S0f0, S0f1⟩ := S0
  go_wp2
  go_ret
  exact ⟨rfl, B⟩

set_option maxRecDepth 100000 in
theorem lifted (os : Os) (started : os.Started) (H : Type) (enc : TypeId × Value → H) :
    ReturnsInHanded {} Try.checked os 4 .any (Rows.fnExactSpotTextSpec.pre6 enc Try.prog Try.f4 Rows.fnExactSpotTextRow.domain false) (Rows.fnExactSpotTextSpec.post enc Try.prog Try.f4 false true false false) := by
  refine returnsInHanded_of_change (C := Try.checked) own started (by kernel_rfl) Try.func4
    (ChangeSpec.witness6 (enc := enc) (C := Try.checked) false ⟨#[], #[.agg #[.int .i64 0, .int .i64 0]], []⟩ 8 (by kernel_rfl) (by kernel_rfl) (by kernel_rfl) (by kernel_rfl)) ?_
  intro W base args ds gs before hval0 hW hcnd _
  have hval : ∀ (j : Nat) t v, Try.f4.params[j]? = some t → args[j]? = some v → Value.okWide Try.prog W .any base t v := hval0
  have hW' := hW
  obtain ⟨p, q, hA0, hV, rfl, hfz, hnd⟩ := hW
  have hA : DataW.TrodAll enc Try.prog W 0 (fun _ => true) true Try.f4.params.toList args.toList ds p := hA0
  rw [Try.params4] at hA hval
  obtain ⟨v0, vs0, d0, ds0, p0, q0, hargs0, rfl, rfl, h0, r0⟩ := trodAll_cons hA
  obtain ⟨rfl, rfl, rfl⟩ := trodAll_nil r0
  obtain rfl : args = #[v0] := by cases args; simp_all
  obtain ⟨rfl, rfl⟩ := trodVars_none hV
  obtain ⟨x0, y0, rfl, rfl, rfl, wx0, wy0⟩ := EP.open_spot (hval 0 23 v0 rfl rfl) h0
  clear hA0 hval0
  simp only [List.append_nil] at hW'
  refine (walk x0 y0 W).mono fun e W' ⟨he, bel⟩ => ?_
  subst he
  exact ⟨_, rfl, _, _, _, [], _, [], hW', (trodAll_cons_mk (shut_bool Try.underlying4 _) trodAll_mk0), (trodAll_cons_mk (EP.shut_spot wx0 wy0) trodAll_mk0), rfl, bel.frame _, fun h => by cases h⟩

theorem over : Rows.fnExactSpotTextRow.holds Try.pinned (OpenSpec.ofChange Rows.fnExactSpotTextSpec) :=
  OpenClaim.holds_of_wide 4 Try.f4 rfl rfl rfl rfl rfl rfl rfl ⟨rfl, rfl, rfl, rfl, rfl⟩ rfl rfl rfl rfl rfl (by kernel_rfl) Try.func4 (by kernel_rfl)
    (of_decide_eq_true (by kernel_rfl)) (by unfold Func.isWrapper; first | (rw [if_pos (by decide +kernel)]; kernel_rfl) | (rw [if_neg (by decide +kernel)]; exact ⟨rfl, rfl⟩))
    (fun os started H enc _ => lifted os started H enc)

theorem proved : Rows.FnExactSpotTextSaid :=
  over
end Go.Proofs.Ytfdkpcejjcifgau.fnExactSpotText
namespace Go.Proofs.Ytfdkpcejjcifgau
theorem fnExactSpotText_holds : Rows.FnExactSpotTextSaid := fnExactSpotText.proved
#print axioms fnExactSpotText_holds
end Go.Proofs.Ytfdkpcejjcifgau
