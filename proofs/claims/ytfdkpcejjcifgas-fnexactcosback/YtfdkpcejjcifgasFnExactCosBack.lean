/-
  At every int impl.CosBack answers as the specification's CosBack (a fan with the angle of the cosine in it and true, or nothing and false), and the law returns true. No conditions.
-/
import Derived.Test.YtfdkpcejjcifgasRows
import Derived.WalkKit
import Derived.ProofKit
import Derived.OpenShut
import Derived.Test.YtfdkpcejjcifgasBackImpl3
import Derived.Test.YtfdkpcejjcifgasFanExact
import Derived.Below
import Derived.ShutString
namespace Go.Proofs.Ytfdkpcejjcifgas.fnExactCosBack
open Go.ChangeShapes Go.WideShapes Go.ChangeAt Go.RowKit
open Go.ChangeMaps (open_string shut_string)
set_option linter.unusedVariables false      -- a walk need not use every 'w<i>' (that an integer argument fits its kind)

theorem own : ownKnob Try.prog.godebug = none := by kernel_rfl

theorem pair (a0 : Int) : ∃ (lo hi : Int) (c : Bool), (∀ w, Calls Try.prog 11 #[.int .i64 a0] w fun e w' => e = .returned (.tuple #[SK.spV lo hi, .bool c]) ∧ Below w.heap.size w w') ∧ ∀ w, Calls Try.prog 12 #[.int .i64 a0] w fun e w' => e = .returned (.tuple #[SK.spV lo hi, .bool c]) ∧ Below w.heap.size w w' := 
  ⟨_, _, _, fun w => SK.sCosBack_any a0 w, fun w => SK.cosBack_any a0 w⟩
set_option maxHeartbeats 8000000 in

theorem walk (a0 : Int) (w0 : (Lit.int .i64 a0).wf = true) (w : World) :
    Calls Try.prog 4 #[.int .i64 a0] w fun e w' => e = .returned (.bool true) ∧ Below w.heap.size w w' := by
  obtain ⟨lo, hi, c, hspec, himpl⟩ := pair a0
  go_enter Try.func4, Try.ntmps4
  go_wp2_with fail
  refine (hspec _).mono ?_
  rintro e w1 ⟨rfl, B1⟩
  have X := SK.Box.new w1 lo hi 23
  have B := SK.below1 B1 (SK.below_new w1 (.cells #[.int .i64 (lo), .int .i64 (hi)] 23))
  clear B1 hspec
  go_wp2_with fail
  refine (himpl _).mono ?_
  rintro e w2 ⟨rfl, B2⟩
  obtain ⟨c0, c1, c2, c3⟩ := (X.kept B2).alloc (.cells #[.int .i64 (lo), .int .i64 (hi)] 23)
  replace B := SK.below1 (SK.below1 B B2) (SK.below_new w2 (.cells #[.int .i64 (lo), .int .i64 (hi)] 23))
  clear B2 himpl X
  go_wp2_with fail
  refine (EF.eqFan_same _ _ _).mono ?_
  rintro e w3 ⟨rfl, B3⟩
  replace B := SK.below1 B B3
  clear B3
  go_wp2
  go_ret
  exact ⟨rfl, B⟩

set_option maxRecDepth 100000 in
theorem lifted (os : Os) (started : os.Started) (H : Type) (enc : TypeId × Value → H) :
    ReturnsInHanded {} Try.checked os 4 .any (Rows.fnExactCosBackSpec.pre6 enc Try.prog Try.f4 Rows.fnExactCosBackRow.domain false) (Rows.fnExactCosBackSpec.post enc Try.prog Try.f4 false true false false) := by
  refine returnsInHanded_of_change (C := Try.checked) own started (by kernel_rfl) Try.func4
    (ChangeSpec.witness6 (enc := enc) (C := Try.checked) false ⟨#[], #[.int .i64 0], []⟩ 8 (by kernel_rfl) (by kernel_rfl) (by kernel_rfl) (by kernel_rfl)) ?_
  intro W base args ds gs before hval0 hW hcnd _
  have hval : ∀ (j : Nat) t v, Try.f4.params[j]? = some t → args[j]? = some v → Value.okWide Try.prog W .any base t v := hval0
  have hW' := hW
  obtain ⟨p, q, hA0, hV, rfl, hfz, hnd⟩ := hW
  have hA : DataW.TrodAll enc Try.prog W 0 (fun _ => true) true Try.f4.params.toList args.toList ds p := hA0
  rw [Try.params4] at hA hval
  obtain ⟨v0, vs0, d0, ds0, p0, q0, hargs, rfl, rfl, h0, r0⟩ := trodAll_cons hA
  obtain ⟨rfl, rfl, rfl⟩ := trodAll_nil r0
  obtain rfl : args = #[v0] := by cases args; simp_all
  obtain ⟨rfl, rfl⟩ := trodVars_none hV
  obtain ⟨a0, rfl, rfl, rfl, w0⟩ := open_int Try.underlying3 (hval 0 3 v0 rfl rfl) h0
  clear hA0 hval0
  simp only [List.append_nil] at hW'
  refine (walk a0 w0 W).mono fun e W' ⟨he, bel⟩ => ?_
  subst he
  exact ⟨_, rfl, _, _, _, [], _, [], hW', (trodAll_cons_mk (shut_bool Try.underlying4 _) trodAll_mk0), (trodAll_cons_mk (shut_int Try.underlying3 w0) trodAll_mk0), rfl, bel.frame _, fun h => by cases h⟩

theorem over : Rows.fnExactCosBackRow.holds Try.pinned (OpenSpec.ofChange Rows.fnExactCosBackSpec) :=
  OpenClaim.holds_of_wide 4 Try.f4 rfl rfl rfl rfl rfl rfl rfl ⟨rfl, rfl, rfl, rfl, rfl⟩ rfl rfl rfl rfl rfl (by kernel_rfl) Try.func4 (by kernel_rfl)
    (of_decide_eq_true (by kernel_rfl)) (by unfold Func.isWrapper; first | (rw [if_pos (by decide +kernel)]; kernel_rfl) | (rw [if_neg (by decide +kernel)]; exact ⟨rfl, rfl⟩))
    (fun os started H enc _ => lifted os started H enc)

theorem proved : Rows.FnExactCosBackSaid :=
  over
end Go.Proofs.Ytfdkpcejjcifgas.fnExactCosBack
namespace Go.Proofs.Ytfdkpcejjcifgas
theorem fnExactCosBack_holds : Rows.FnExactCosBackSaid := fnExactCosBack.proved
#print axioms fnExactCosBack_holds
end Go.Proofs.Ytfdkpcejjcifgas
