/-
  At every three ints impl.TurnBy answers as the specification's TurnBy (two spans with the way that was turned in them and true, or nothing and false), and the law returns true. No conditions.
-/
import Derived.Test.YtiidbbnclhknpaaRows
import Derived.WalkKit
import Derived.ProofKit
import Derived.OpenShut
import Derived.Test.YtiidbbnclhknpaaTurnImpl
import Derived.Test.YtiidbbnclhknpaaEqSpan
import Derived.Below
import Derived.ShutString
namespace Go.Proofs.Ytiidbbnclhknpaa.fnExactTurnBy
open Go.ChangeShapes Go.WideShapes Go.ChangeAt Go.RowKit
open Go.ChangeMaps (open_string shut_string)
set_option linter.unusedVariables false      -- a walk need not use every 'w<i>' (that an integer argument fits its kind)

theorem own : ownKnob Try.prog.godebug = none := by kernel_rfl

theorem pair (a0 a1 a2 : Int) : ∃ (lo hi lo' hi' : Int) (c : Bool), (∀ w, Calls Try.prog 11 #[.int .i64 a0, .int .i64 a1, .int .i64 a2] w fun e w' => e = .returned (.tuple #[SK.spV lo hi, SK.spV lo' hi', .bool c]) ∧ Below w.heap.size w w') ∧ ∀ w, Calls Try.prog 12 #[.int .i64 a0, .int .i64 a1, .int .i64 a2] w fun e w' => e = .returned (.tuple #[SK.spV lo hi, SK.spV lo' hi', .bool c]) ∧ Below w.heap.size w w' :=
  ⟨_, _, _, _, _, fun w => SK.sTurnBy_any a0 a1 a2 w, fun w => SK.turnBy_any a0 a1 a2 w⟩
set_option maxHeartbeats 8000000 in

theorem walk (a0 : Int) (a1 : Int) (a2 : Int) (w0 : (Lit.int .i64 a0).wf = true) (w1 : (Lit.int .i64 a1).wf = true) (w2 : (Lit.int .i64 a2).wf = true) (w : World) :
    Calls Try.prog 5 #[.int .i64 a0, .int .i64 a1, .int .i64 a2] w fun e w' => e = .returned (.bool true) ∧ Below w.heap.size w w' := by
  obtain ⟨lo, hi, lo', hi', c, F1, F2⟩ := pair a0 a1 a2
  go_enter Try.func5, Try.ntmps5
  go_wp2_with fail
  refine (F1 _).mono ?_
  rintro e v1 ⟨rfl, Bx⟩
  have B := Bx
  clear Bx
  have X1 := SK.Box.new v1 (lo) (hi) 26
  replace B := SK.below1 B (SK.below_new v1 (.cells #[.int .i64 (lo), .int .i64 (hi)] 26))
  replace X1 := X1.alloc (.cells #[.int .i64 (lo'), .int .i64 (hi')] 26)
  have X2 : SK.Box ((v1.alloc (.cells #[.int .i64 (lo), .int .i64 (hi)] 26)).alloc (.cells #[.int .i64 (lo'), .int .i64 (hi')] 26)) (v1.heap.size + 1) (lo') (hi') := by simpa using SK.Box.new (v1.alloc (.cells #[.int .i64 (lo), .int .i64 (hi)] 26)) (lo') (hi') 26
  replace B := SK.below1 B (SK.below_new (v1.alloc (.cells #[.int .i64 (lo), .int .i64 (hi)] 26)) (.cells #[.int .i64 (lo'), .int .i64 (hi')] 26))
  have ⟨X1c0, X1c1, X1f0, X1f1⟩ := X1
  have ⟨X2c0, X2c1, X2f0, X2f1⟩ := X2
  go_wp2_with fail
  refine (F2 _).mono ?_
  rintro e v2 ⟨rfl, Bx⟩
  clear X1c0 X1c1 X1f0 X1f1 X2c0 X2c1 X2f0 X2f1
  replace X1 := X1.kept Bx
  replace X2 := X2.kept Bx
  replace B := SK.below1 B Bx
  clear Bx
  replace X1 := X1.alloc (.cells #[.int .i64 (lo), .int .i64 (hi)] 26)
  replace X2 := X2.alloc (.cells #[.int .i64 (lo), .int .i64 (hi)] 26)
  have Y1 := SK.Box.new v2 (lo) (hi) 26
  replace B := SK.below1 B (SK.below_new v2 (.cells #[.int .i64 (lo), .int .i64 (hi)] 26))
  replace X1 := X1.alloc (.cells #[.int .i64 (lo'), .int .i64 (hi')] 26)
  replace X2 := X2.alloc (.cells #[.int .i64 (lo'), .int .i64 (hi')] 26)
  replace Y1 := Y1.alloc (.cells #[.int .i64 (lo'), .int .i64 (hi')] 26)
  have Y2 : SK.Box ((v2.alloc (.cells #[.int .i64 (lo), .int .i64 (hi)] 26)).alloc (.cells #[.int .i64 (lo'), .int .i64 (hi')] 26)) (v2.heap.size + 1) (lo') (hi') := by simpa using SK.Box.new (v2.alloc (.cells #[.int .i64 (lo), .int .i64 (hi)] 26)) (lo') (hi') 26
  replace B := SK.below1 B (SK.below_new (v2.alloc (.cells #[.int .i64 (lo), .int .i64 (hi)] 26)) (.cells #[.int .i64 (lo'), .int .i64 (hi')] 26))
  clear F1 F2
  have ⟨X1c0, X1c1, X1f0, X1f1⟩ := X1
  have ⟨X2c0, X2c1, X2f0, X2f1⟩ := X2
  have ⟨Y1c0, Y1c1, Y1f0, Y1f1⟩ := Y1
  have ⟨Y2c0, Y2c1, Y2f0, Y2f1⟩ := Y2
  go_wp2_with fail
  refine (ES.eqSpan_same lo hi _).mono ?_
  rintro e v3 ⟨rfl, Bx⟩
  clear X1c0 X1c1 X1f0 X1f1 X2c0 X2c1 X2f0 X2f1 Y1c0 Y1c1 Y1f0 Y1f1 Y2c0 Y2c1 Y2f0 Y2f1
  replace X1 := X1.kept Bx
  replace X2 := X2.kept Bx
  replace Y1 := Y1.kept Bx
  replace Y2 := Y2.kept Bx
  replace B := SK.below1 B Bx
  clear Bx
  have ⟨X1c0, X1c1, X1f0, X1f1⟩ := X1
  have ⟨X2c0, X2c1, X2f0, X2f1⟩ := X2
  have ⟨Y1c0, Y1c1, Y1f0, Y1f1⟩ := Y1
  have ⟨Y2c0, Y2c1, Y2f0, Y2f1⟩ := Y2
  go_wp2_with fail
  refine (ES.eqSpan_same lo' hi' _).mono ?_
  rintro e v4 ⟨rfl, Bx⟩
  clear X1c0 X1c1 X1f0 X1f1 X2c0 X2c1 X2f0 X2f1 Y1c0 Y1c1 Y1f0 Y1f1 Y2c0 Y2c1 Y2f0 Y2f1
  replace X1 := X1.kept Bx
  replace X2 := X2.kept Bx
  replace Y1 := Y1.kept Bx
  replace Y2 := Y2.kept Bx
  replace B := SK.below1 B Bx
  clear Bx
  have ⟨X1c0, X1c1, X1f0, X1f1⟩ := X1
  have ⟨X2c0, X2c1, X2f0, X2f1⟩ := X2
  have ⟨Y1c0, Y1c1, Y1f0, Y1f1⟩ := Y1
  have ⟨Y2c0, Y2c1, Y2f0, Y2f1⟩ := Y2
  go_wp2
  go_ret
  exact ⟨rfl, B⟩

set_option maxRecDepth 100000 in
theorem lifted (os : Os) (started : os.Started) (H : Type) (enc : TypeId × Value → H) :
    ReturnsInHanded {} Try.checked os 5 .any (Rows.fnExactTurnBySpec.pre6 enc Try.prog Try.f5 Rows.fnExactTurnByRow.domain false) (Rows.fnExactTurnBySpec.post enc Try.prog Try.f5 false true false false) := by
  refine returnsInHanded_of_change (C := Try.checked) own started (by kernel_rfl) Try.func5
    (ChangeSpec.witness6 (enc := enc) (C := Try.checked) false ⟨#[], #[.int .i64 0, .int .i64 0, .int .i64 0], []⟩ 8 (by kernel_rfl) (by kernel_rfl) (by kernel_rfl) (by kernel_rfl)) ?_
  intro W base args ds gs before hval0 hW hcnd _
  have hval : ∀ (j : Nat) t v, Try.f5.params[j]? = some t → args[j]? = some v → Value.okWide Try.prog W .any base t v := hval0
  have hW' := hW
  obtain ⟨p, q, hA0, hV, rfl, hfz, hnd⟩ := hW
  have hA : DataW.TrodAll enc Try.prog W 0 (fun _ => true) true Try.f5.params.toList args.toList ds p := hA0
  rw [Try.params5] at hA hval
  obtain ⟨v0, vs0, d0, ds0, p0, q0, hargs, rfl, rfl, h0, r0⟩ := trodAll_cons hA
  obtain ⟨v1, vs1, d1, ds1, p1, q1, rfl, rfl, rfl, h1, r1⟩ := trodAll_cons r0
  obtain ⟨v2, vs2, d2, ds2, p2, q2, rfl, rfl, rfl, h2, r2⟩ := trodAll_cons r1
  obtain ⟨rfl, rfl, rfl⟩ := trodAll_nil r2
  obtain rfl : args = #[v0, v1, v2] := by cases args; simp_all
  obtain ⟨rfl, rfl⟩ := trodVars_none hV
  obtain ⟨a0, rfl, rfl, rfl, w0⟩ := open_int Try.underlying3 (hval 0 3 v0 rfl rfl) h0
  obtain ⟨a1, rfl, rfl, rfl, w1⟩ := open_int Try.underlying3 (hval 1 3 v1 rfl rfl) h1
  obtain ⟨a2, rfl, rfl, rfl, w2⟩ := open_int Try.underlying3 (hval 2 3 v2 rfl rfl) h2
  clear hA0 hval0
  simp only [List.append_nil] at hW'
  refine (walk a0 a1 a2 w0 w1 w2 W).mono fun e W' ⟨he, bel⟩ => ?_
  subst he
  exact ⟨_, rfl, _, _, _, [], _, [], hW', (trodAll_cons_mk (shut_bool Try.underlying4 _) trodAll_mk0), (trodAll_cons_mk (shut_int Try.underlying3 w0) (trodAll_cons_mk (shut_int Try.underlying3 w1) (trodAll_cons_mk (shut_int Try.underlying3 w2) trodAll_mk0))), rfl, bel.frame _, fun h => by cases h⟩

theorem over : Rows.fnExactTurnByRow.holds Try.pinned (OpenSpec.ofChange Rows.fnExactTurnBySpec) :=
  OpenClaim.holds_of_wide 5 Try.f5 rfl rfl rfl rfl rfl rfl rfl ⟨rfl, rfl, rfl, rfl, rfl⟩ rfl rfl rfl rfl rfl (by kernel_rfl) Try.func5 (by kernel_rfl)
    (of_decide_eq_true (by kernel_rfl)) (by unfold Func.isWrapper; first | (rw [if_pos (by decide +kernel)]; kernel_rfl) | (rw [if_neg (by decide +kernel)]; exact ⟨rfl, rfl⟩))
    (fun os started H enc _ => lifted os started H enc)

theorem proved : Rows.FnExactTurnBySaid :=
  over
end Go.Proofs.Ytiidbbnclhknpaa.fnExactTurnBy
namespace Go.Proofs.Ytiidbbnclhknpaa
theorem fnExactTurnBy_holds : Rows.FnExactTurnBySaid := fnExactTurnBy.proved
#print axioms fnExactTurnBy_holds
end Go.Proofs.Ytiidbbnclhknpaa
