/-
  At every two ints impl.TurnLong answers as the specification's TurnLong (a span with how long the way is in it and true, or nothing and false), and the law returns true. No conditions.
-/
import Derived.Test.YtiidbbnclhknpaaRows
import Derived.WalkKit
import Derived.ProofKit
import Derived.OpenShut
import Derived.Test.YtiidbbnclhknpaaTurnRoot
import Derived.Test.YtiidbbnclhknpaaEqSpan
import Derived.Below
import Derived.ShutString
namespace Go.Proofs.Ytiidbbnclhknpaa.fnExactTurnLong
open Go.ChangeShapes Go.WideShapes Go.ChangeAt Go.RowKit
open Go.ChangeMaps (open_string shut_string)
set_option linter.unusedVariables false      -- a walk need not use every 'w<i>' (that an integer argument fits its kind)

theorem own : ownKnob Try.prog.godebug = none := by kernel_rfl

theorem pair (a0 a1 : Int) : ∃ (lo hi : Int) (c : Bool), (∀ w, Calls Try.prog 8 #[.int .i64 a0, .int .i64 a1] w fun e w' => e = .returned (.tuple #[SK.spV lo hi, .bool c]) ∧ Below w.heap.size w w') ∧ ∀ w, Calls Try.prog 9 #[.int .i64 a0, .int .i64 a1] w fun e w' => e = .returned (.tuple #[SK.spV lo hi, .bool c]) ∧ Below w.heap.size w w' :=
  ⟨_, _, _, fun w => SW.sTurnLong_any a0 a1 w, fun w => SW.turnLong_any a0 a1 w⟩
set_option maxHeartbeats 8000000 in

theorem walk (a0 : Int) (a1 : Int) (w0 : (Lit.int .i64 a0).wf = true) (w1 : (Lit.int .i64 a1).wf = true) (w : World) :
    Calls Try.prog 6 #[.int .i64 a0, .int .i64 a1] w fun e w' => e = .returned (.bool true) ∧ Below w.heap.size w w' := by
  obtain ⟨lo, hi, c, F1, F2⟩ := pair a0 a1
  go_enter Try.func6, Try.ntmps6
  go_wp2_with fail
  refine (F1 _).mono ?_
  rintro e v1 ⟨rfl, Bx⟩
  have B := Bx
  clear Bx
  have X1 := SK.Box.new v1 (lo) (hi) 26
  replace B := SK.below1 B (SK.below_new v1 (.cells #[.int .i64 (lo), .int .i64 (hi)] 26))
  have ⟨X1c0, X1c1, X1f0, X1f1⟩ := X1
  go_wp2_with fail
  refine (F2 _).mono ?_
  rintro e v2 ⟨rfl, Bx⟩
  clear X1c0 X1c1 X1f0 X1f1
  replace X1 := X1.kept Bx
  replace B := SK.below1 B Bx
  clear Bx
  replace X1 := X1.alloc (.cells #[.int .i64 (lo), .int .i64 (hi)] 26)
  have Y1 := SK.Box.new v2 (lo) (hi) 26
  replace B := SK.below1 B (SK.below_new v2 (.cells #[.int .i64 (lo), .int .i64 (hi)] 26))
  clear F1 F2
  have ⟨X1c0, X1c1, X1f0, X1f1⟩ := X1
  have ⟨Y1c0, Y1c1, Y1f0, Y1f1⟩ := Y1
  go_wp2_with fail
  refine (ES.eqSpan_same lo hi _).mono ?_
  rintro e v3 ⟨rfl, Bx⟩
  clear X1c0 X1c1 X1f0 X1f1 Y1c0 Y1c1 Y1f0 Y1f1
  replace X1 := X1.kept Bx
  replace Y1 := Y1.kept Bx
  replace B := SK.below1 B Bx
  clear Bx
  have ⟨X1c0, X1c1, X1f0, X1f1⟩ := X1
  have ⟨Y1c0, Y1c1, Y1f0, Y1f1⟩ := Y1
  go_wp2
  go_ret
  exact ⟨rfl, B⟩

set_option maxRecDepth 100000 in
theorem lifted (os : Os) (started : os.Started) (H : Type) (enc : TypeId × Value → H) :
    ReturnsInHanded {} Try.checked os 6 .any (Rows.fnExactTurnLongSpec.pre6 enc Try.prog Try.f6 Rows.fnExactTurnLongRow.domain false) (Rows.fnExactTurnLongSpec.post enc Try.prog Try.f6 false true false false) := by
  refine returnsInHanded_of_change (C := Try.checked) own started (by kernel_rfl) Try.func6
    (ChangeSpec.witness6 (enc := enc) (C := Try.checked) false ⟨#[], #[.int .i64 0, .int .i64 0], []⟩ 8 (by kernel_rfl) (by kernel_rfl) (by kernel_rfl) (by kernel_rfl)) ?_
  intro W base args ds gs before hval0 hW hcnd _
  have hval : ∀ (j : Nat) t v, Try.f6.params[j]? = some t → args[j]? = some v → Value.okWide Try.prog W .any base t v := hval0
  have hW' := hW
  obtain ⟨p, q, hA0, hV, rfl, hfz, hnd⟩ := hW
  have hA : DataW.TrodAll enc Try.prog W 0 (fun _ => true) true Try.f6.params.toList args.toList ds p := hA0
  rw [Try.params6] at hA hval
  obtain ⟨v0, vs0, d0, ds0, p0, q0, hargs, rfl, rfl, h0, r0⟩ := trodAll_cons hA
  obtain ⟨v1, vs1, d1, ds1, p1, q1, rfl, rfl, rfl, h1, r1⟩ := trodAll_cons r0
  obtain ⟨rfl, rfl, rfl⟩ := trodAll_nil r1
  obtain rfl : args = #[v0, v1] := by cases args; simp_all
  obtain ⟨rfl, rfl⟩ := trodVars_none hV
  obtain ⟨a0, rfl, rfl, rfl, w0⟩ := open_int Try.underlying3 (hval 0 3 v0 rfl rfl) h0
  obtain ⟨a1, rfl, rfl, rfl, w1⟩ := open_int Try.underlying3 (hval 1 3 v1 rfl rfl) h1
  clear hA0 hval0
  simp only [List.append_nil] at hW'
  refine (walk a0 a1 w0 w1 W).mono fun e W' ⟨he, bel⟩ => ?_
  subst he
  exact ⟨_, rfl, _, _, _, [], _, [], hW', (trodAll_cons_mk (shut_bool Try.underlying4 _) trodAll_mk0), (trodAll_cons_mk (shut_int Try.underlying3 w0) (trodAll_cons_mk (shut_int Try.underlying3 w1) trodAll_mk0)), rfl, bel.frame _, fun h => by cases h⟩

theorem over : Rows.fnExactTurnLongRow.holds Try.pinned (OpenSpec.ofChange Rows.fnExactTurnLongSpec) :=
  OpenClaim.holds_of_wide 6 Try.f6 rfl rfl rfl rfl rfl rfl rfl ⟨rfl, rfl, rfl, rfl, rfl⟩ rfl rfl rfl rfl rfl (by kernel_rfl) Try.func6 (by kernel_rfl)
    (of_decide_eq_true (by kernel_rfl)) (by unfold Func.isWrapper; first | (rw [if_pos (by decide +kernel)]; kernel_rfl) | (rw [if_neg (by decide +kernel)]; exact ⟨rfl, rfl⟩))
    (fun os started H enc _ => lifted os started H enc)

theorem proved : Rows.FnExactTurnLongSaid :=
  over
end Go.Proofs.Ytiidbbnclhknpaa.fnExactTurnLong
namespace Go.Proofs.Ytiidbbnclhknpaa
theorem fnExactTurnLong_holds : Rows.FnExactTurnLongSaid := fnExactTurnLong.proved
#print axioms fnExactTurnLong_holds
end Go.Proofs.Ytiidbbnclhknpaa
