/-
  At every int impl.AngParts answers as the specification's AngParts, field by field, and the law returns true. No conditions.
-/
import Derived.Test.YtlhkedollclfiaqRows
import Derived.WalkKit
import Derived.ProofKit
import Derived.OpenShut
import Derived.Test.YtlhkedollclfiaqAngImpl
import Derived.Below
import Derived.ShutString
namespace Go.Proofs.Ytlhkedollclfiaq.fnExactAngParts
open Go.ChangeShapes Go.WideShapes Go.ChangeAt Go.RowKit
open Go.ChangeMaps (open_string shut_string)
set_option linter.unusedVariables false      -- a walk need not use every 'w<i>' (that an integer argument fits its kind)

theorem own : ownKnob Try.prog.godebug = none := by kernel_rfl

set_option maxHeartbeats 8000000 in

theorem walk (a0 : Int) (w0 : (Lit.int .i64 a0).wf = true) (w : World) :
    Calls Try.prog 5 #[.int .i64 a0] w fun e w' => e = .returned (.bool true) ∧ Below w.heap.size w w' := by
  cases h : AM.inT a0
  · have P1 := AW.sParts_no a0 w h
    have P2 := fun w => AW.parts_no a0 w h
    clear h
    go_enter Try.func5, Try.ntmps5
    go_wp2_with fail
    refine P1.mono ?_
    rintro e w1 ⟨rfl, B1⟩
    have F1 := AW.Five.new w1 false 0 0 0 0 28
    have B := AW.below1 B1 (AW.below_new w1 (.cells #[.bool false, .int .i64 0, .int .i64 0, .int .i64 0, .int .i64 0] 28))
    clear B1 P1
    go_wp2_with fail
    refine (P2 _).mono ?_
    rintro e w2 ⟨rfl, B2⟩
    replace F1 := F1.kept B2
    replace B := AW.below1 B B2
    clear B2 P2
    replace F1 := F1.kept (AW.below_new w2 (.cells #[.bool false, .int .i64 0, .int .i64 0, .int .i64 0, .int .i64 0] 28))
    have F2 := AW.Five.new w2 false 0 0 0 0 28
    replace B := AW.below1 B (AW.below_new w2 (.cells #[.bool false, .int .i64 0, .int .i64 0, .int .i64 0, .int .i64 0] 28))
    obtain ⟨c0, c1, c2, c3, c4⟩ := F1
    obtain ⟨d0, d1, d2, d3, d4⟩ := F2
    go_wp2_with fail
    refine (AW.eqAng_any _ _ _ _ _ _).mono ?_
    rintro e w3 ⟨rfl, B3⟩
    replace B := AW.below1 B B3
    clear B3
    go_wp2
    go_ret
    exact ⟨rfl, B⟩
  · have P1 := AW.sParts_yes a0 w h
    have P2 := fun w => AW.parts_yes a0 w h
    clear h
    generalize decide (a0 < 0) = l at *
    generalize AM.deg a0 = d at *
    generalize AM.mi a0 = m at *
    generalize AM.se a0 = s at *
    generalize AM.hu a0 = u at *
    go_enter Try.func5, Try.ntmps5
    go_wp2_with fail
    refine P1.mono ?_
    rintro e w1 ⟨rfl, B1⟩
    have F1 := AW.Five.new w1 l d m s u 28
    have B := AW.below1 B1 (AW.below_new w1 (.cells #[.bool l, .int .i64 d, .int .i64 m, .int .i64 s, .int .i64 u] 28))
    clear B1 P1
    go_wp2_with fail
    refine (P2 _).mono ?_
    rintro e w2 ⟨rfl, B2⟩
    replace F1 := F1.kept B2
    replace B := AW.below1 B B2
    clear B2 P2
    replace F1 := F1.kept (AW.below_new w2 (.cells #[.bool l, .int .i64 d, .int .i64 m, .int .i64 s, .int .i64 u] 28))
    have F2 := AW.Five.new w2 l d m s u 28
    replace B := AW.below1 B (AW.below_new w2 (.cells #[.bool l, .int .i64 d, .int .i64 m, .int .i64 s, .int .i64 u] 28))
    obtain ⟨c0, c1, c2, c3, c4⟩ := F1
    obtain ⟨d0, d1, d2, d3, d4⟩ := F2
    go_wp2_with fail
    refine (AW.eqAng_any _ _ _ _ _ _).mono ?_
    rintro e w3 ⟨rfl, B3⟩
    replace B := AW.below1 B B3
    clear B3
    go_wp2
    go_ret
    exact ⟨rfl, B⟩

set_option maxRecDepth 100000 in
theorem lifted (os : Os) (started : os.Started) (H : Type) (enc : TypeId × Value → H) :
    ReturnsInHanded {} Try.checked os 5 .any (Rows.fnExactAngPartsSpec.pre6 enc Try.prog Try.f5 Rows.fnExactAngPartsRow.domain false) (Rows.fnExactAngPartsSpec.post enc Try.prog Try.f5 false true false false) := by
  refine returnsInHanded_of_change (C := Try.checked) own started (by kernel_rfl) Try.func5
    (ChangeSpec.witness6 (enc := enc) (C := Try.checked) false ⟨#[], #[.int .i64 0], []⟩ 8 (by kernel_rfl) (by kernel_rfl) (by kernel_rfl) (by kernel_rfl)) ?_
  intro W base args ds gs before hval0 hW hcnd _
  have hval : ∀ (j : Nat) t v, Try.f5.params[j]? = some t → args[j]? = some v → Value.okWide Try.prog W .any base t v := hval0
  have hW' := hW
  obtain ⟨p, q, hA0, hV, rfl, hfz, hnd⟩ := hW
  have hA : DataW.TrodAll enc Try.prog W 0 (fun _ => true) true Try.f5.params.toList args.toList ds p := hA0
  rw [Try.params5] at hA hval
  obtain ⟨v0, vs0, d0, ds0, p0, q0, hargs, rfl, rfl, h0, r0⟩ := trodAll_cons hA
  obtain ⟨rfl, rfl, rfl⟩ := trodAll_nil r0
  obtain rfl : args = #[v0] := by cases args; simp_all
  obtain ⟨rfl, rfl⟩ := trodVars_none hV
  obtain ⟨a0, rfl, rfl, rfl, w0⟩ := open_int Try.underlying3 (hval 0 3 v0 rfl rfl) h0
  clear hA0 hval0
  simp only [List.append_nil] at hW'
  refine (walk a0 w0 W).mono fun e W' ⟨he, bel⟩ => ?_
  subst he
  exact ⟨_, rfl, _, _, _, [], _, [], hW', (trodAll_cons_mk (shut_bool Try.underlying4 _) trodAll_mk0), (trodAll_cons_mk (shut_int Try.underlying3 w0) trodAll_mk0), rfl, bel.frame _, fun h => by cases h⟩

theorem over : Rows.fnExactAngPartsRow.holds Try.pinned (OpenSpec.ofChange Rows.fnExactAngPartsSpec) :=
  OpenClaim.holds_of_wide 5 Try.f5 rfl rfl rfl rfl rfl rfl rfl ⟨rfl, rfl, rfl, rfl, rfl⟩ rfl rfl rfl rfl rfl (by kernel_rfl) Try.func5 (by kernel_rfl)
    (of_decide_eq_true (by kernel_rfl)) (by unfold Func.isWrapper; first | (rw [if_pos (by decide +kernel)]; kernel_rfl) | (rw [if_neg (by decide +kernel)]; exact ⟨rfl, rfl⟩))
    (fun os started H enc _ => lifted os started H enc)

theorem proved : Rows.FnExactAngPartsSaid :=
  over
end Go.Proofs.Ytlhkedollclfiaq.fnExactAngParts
namespace Go.Proofs.Ytlhkedollclfiaq
theorem fnExactAngParts_holds : Rows.FnExactAngPartsSaid := fnExactAngParts.proved
#print axioms fnExactAngParts_holds
end Go.Proofs.Ytlhkedollclfiaq
