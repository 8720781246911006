/-
  At every angle by its parts impl.AngOf answers as the specification's AngOf (the angle and true, or 0 and false), and the law returns true. No conditions.
-/
import Derived.Test.YtlhkedollclfiaqRows
import Derived.WalkKit
import Derived.ProofKit
import Derived.OpenShut
import Derived.Test.YtlhkedollclfiaqAngImpl
import Derived.Test.YtlhkedollclfiaqAngOpen
import Derived.Below
namespace Go.Proofs.Ytlhkedollclfiaq.fnExactAngOf
open Go.ChangeShapes Go.WideShapes Go.ChangeAt Go.RowKit
set_option linter.unusedVariables false

theorem own : ownKnob Try.prog.godebug = none := by kernel_rfl

set_option maxHeartbeats 8000000 in
theorem walk (l : Bool) (d m s u : Int) (w : World) :
    Calls Try.prog 6 #[AW.angV l d m s u] w fun e w' => e = .returned (.bool true) ∧ Below w.heap.size w w' := by
  have F := AW.Five.new w l d m s u 32
  have B := AW.below_new w (.cells #[.bool l, .int .i64 d, .int .i64 m, .int .i64 s, .int .i64 u] 32)
  have S := fun w => AW.sOf_any l d m s u w
  have I := fun w => AW.of_any l d m s u w
  generalize AM.ofV l d m s u = x at *
  generalize AM.ofB l d m s u = y at *
  obtain ⟨c0, c1, c2, c3, c4⟩ := F
  go_enter Try.func6, Try.ntmps6
  go_wp2_with fail
  refine (AW.toAng_any _ _ _ _ _ _).mono ?_
  rintro e w1 ⟨rfl, B1⟩
  replace c0 := (B1.cell (AW.cell_lt c0)).trans c0
  replace c1 := (B1.cell (AW.cell_lt c1)).trans c1
  replace c2 := (B1.cell (AW.cell_lt c2)).trans c2
  replace c3 := (B1.cell (AW.cell_lt c3)).trans c3
  replace c4 := (B1.cell (AW.cell_lt c4)).trans c4
  replace B := AW.below1 B B1
  clear B1
  go_wp2_with fail
  refine (S _).mono ?_
  rintro e w2 ⟨rfl, B2⟩
  replace c0 := (B2.cell (AW.cell_lt c0)).trans c0
  replace c1 := (B2.cell (AW.cell_lt c1)).trans c1
  replace c2 := (B2.cell (AW.cell_lt c2)).trans c2
  replace c3 := (B2.cell (AW.cell_lt c3)).trans c3
  replace c4 := (B2.cell (AW.cell_lt c4)).trans c4
  replace B := AW.below1 B B2
  clear B2
  go_wp2_with fail
  refine (AW.toAng_any _ _ _ _ _ _).mono ?_
  rintro e w3 ⟨rfl, B3⟩
  replace B := AW.below1 B B3
  clear B3 c0 c1 c2 c3 c4
  go_wp2_with fail
  refine (I _).mono ?_
  rintro e w4 ⟨rfl, B4⟩
  replace B := AW.below1 B B4
  clear B4
  go_wp2
  go_ret
  exact ⟨rfl, B⟩

set_option maxRecDepth 100000 in
theorem lifted (os : Os) (started : os.Started) (H : Type) (enc : TypeId × Value → H) :
    ReturnsInHanded {} Try.checked os 6 .any (Rows.fnExactAngOfSpec.pre6 enc Try.prog Try.f6 Rows.fnExactAngOfRow.domain false) (Rows.fnExactAngOfSpec.post enc Try.prog Try.f6 false true false false) := by
  refine returnsInHanded_of_change (C := Try.checked) own started (by kernel_rfl) Try.func6
    (ChangeSpec.witness6 (enc := enc) (C := Try.checked) false ⟨#[], #[.agg #[.bool false, .int .i64 0, .int .i64 0, .int .i64 0, .int .i64 0]], []⟩ 8 (by kernel_rfl) (by kernel_rfl) (by kernel_rfl) (by kernel_rfl)) ?_
  intro W base args ds gs before hval0 hW hcnd _
  have hval : ∀ (j : Nat) t v, Try.f6.params[j]? = some t → args[j]? = some v → Value.okWide Try.prog W .any base t v := hval0
  have hW' := hW
  obtain ⟨p, q, hA0, hV, rfl, hfz, hnd⟩ := hW
  have hA : DataW.TrodAll enc Try.prog W 0 (fun _ => true) true Try.f6.params.toList args.toList ds p := hA0
  rw [Try.params6] at hA hval
  obtain ⟨v0, vs0, d0, ds0, p0, q0, hargs, rfl, rfl, h0, r0⟩ := trodAll_cons hA
  obtain ⟨rfl, rfl, rfl⟩ := trodAll_nil r0
  obtain rfl : args = #[v0] := by cases args; simp_all
  obtain ⟨rfl, rfl⟩ := trodVars_none hV
  obtain ⟨l, x1, x2, x3, x4, rfl, rfl, rfl, w1, w2, w3, w4⟩ := AK.open_ang (hval 0 32 v0 rfl rfl) h0
  clear hA0 hval0
  simp only [List.append_nil] at hW'
  refine (walk l x1 x2 x3 x4 W).mono fun e W' ⟨he, bel⟩ => ?_
  subst he
  exact ⟨_, rfl, _, _, _, [], _, [], hW', (trodAll_cons_mk (shut_bool Try.underlying4 _) trodAll_mk0), (trodAll_cons_mk (AK.shut_ang w1 w2 w3 w4) trodAll_mk0), rfl, bel.frame _, fun h => by cases h⟩

theorem over : Rows.fnExactAngOfRow.holds Try.pinned (OpenSpec.ofChange Rows.fnExactAngOfSpec) :=
  OpenClaim.holds_of_wide 6 Try.f6 rfl rfl rfl rfl rfl rfl rfl ⟨rfl, rfl, rfl, rfl, rfl⟩ rfl rfl rfl rfl rfl (by kernel_rfl) Try.func6 (by kernel_rfl)
    (of_decide_eq_true (by kernel_rfl)) (by unfold Func.isWrapper; first | (rw [if_pos (by decide +kernel)]; kernel_rfl) | (rw [if_neg (by decide +kernel)]; exact ⟨rfl, rfl⟩))
    (fun os started H enc _ => lifted os started H enc)

theorem proved : Rows.FnExactAngOfSaid :=
  over
end Go.Proofs.Ytlhkedollclfiaq.fnExactAngOf
namespace Go.Proofs.Ytlhkedollclfiaq
theorem fnExactAngOf_holds : Rows.FnExactAngOfSaid := fnExactAngOf.proved
#print axioms fnExactAngOf_holds
end Go.Proofs.Ytlhkedollclfiaq
