/-
  At every tree impl.ExprOk answers as the specification's ExprOk, and writes into no argument; the law returns true. No conditions.
-/
import Derived.Test.YtlkompbigpbefabRows
import Derived.WalkKit
import Derived.ProofKit
import Derived.OpenShut
import Derived.Test.YtlkompbigpbefabExprLoose
import Derived.Test.YtlkompbigpbefabExprSize5
import Derived.Test.YtlkompbigpbefabExprImpl
import Derived.Test.YtlkompbigpbefabExprOpen
import Derived.Below
namespace Go.Proofs.Ytlkompbigpbefab.fnExactExprOk
open Go.ChangeShapes Go.WideShapes Go.ChangeAt Go.RowKit
set_option linter.unusedVariables false

theorem own : ownKnob Try.prog.godebug = none := by kernel_rfl
theorem laidOut : laidOutB Try.prog = true := by kernel_rfl

open EM SK ER Go.Sort
set_option maxHeartbeats 4000000 in
theorem walk (k a c : Int) (t : EM.F) (u : Value) (w : World) (hk : ER.Kids w t u) (hl : t.len ≤ maxLen) (hlo : ER.low t) :
    Calls Try.prog 5 #[ER.exV k a c u] w fun e w' => e = .returned (.bool true) ∧ Below w.heap.size w w' := by
  obtain ⟨p, _, cap, rfl, rfl, hr⟩ := hk
  have hk : Hide (ER.Kids w t (.slice p t.len cap)) := ⟨p, _, cap, rfl, rfl, hr⟩
  clear hr
  have E := Ex.new w k a c (.slice p t.len cap) 33
  have B := below_new w (.cells #[.int .i64 k, .int .i64 a, .int .i64 c, .slice p t.len cap] 33)
  have S := szExpr_any k a c t (.slice p t.len cap) 1048576 _ (hk.out.kept B) hl hlo (by omega) (by omega)
  obtain ⟨z, hz⟩ : ∃ z, z = szR t.cnt 1048576 := ⟨_, rfl⟩
  rw [← hz] at S
  replace S := Hide.mk S
  replace hz := Hide.mk hz
  clear hl hlo
  go_enter Try.func5, Try.ntmps5
  have ⟨E0, E1, E2, E3⟩ := E
  go_wp2_with fail
  clear E0 E1 E2 E3
  generalize (w.alloc (.cells #[.int .i64 k, .int .i64 a, .int .i64 c, .slice p t.len cap] 33)) = w1 at *
  refine (S.out).mono ?_
  clear S
  rintro e w2 ⟨rfl, Bx⟩
  replace E := E.kept Bx
  replace B := below1 B Bx
  clear Bx
  by_cases g : z < 0
  · have ⟨E0, E1, E2, E3⟩ := E
    go_wp2
    go_ret
    exact ⟨rfl, B⟩
  have hc : Hide (t.cnt ≤ 1048576) := ⟨by have := hz.out; unfold szR at this; split at this <;> omega⟩
  have ⟨E0, E1, E2, E3⟩ := E
  go_wp2_with fail
  clear E0 E1 E2 E3
  refine (toExpr_any k a c t (.slice p t.len cap) w2 (hk.out.kept B) hc.out).mono ?_
  rintro e w3 ⟨x1, rfl, G1, Bx⟩
  replace E := E.kept Bx
  replace B := below1 B Bx
  replace G1 := Hide.mk G1.kids
  clear Bx
  go_wp2_with fail
  refine (sExprOk_any k a c t x1 w3 G1.out).mono ?_
  rintro e w4 ⟨rfl, Bx⟩
  replace E := E.kept Bx
  replace B := below1 B Bx
  clear Bx G1
  have ⟨E0, E1, E2, E3⟩ := E
  go_wp2_with fail
  clear E0 E1 E2 E3
  refine (toExpr_any k a c t (.slice p t.len cap) w4 (hk.out.kept B) hc.out).mono ?_
  rintro e w5 ⟨x2, rfl, G2, Bx⟩
  replace E := E.kept Bx
  replace B := below1 B Bx
  obtain ⟨p2, n2, cap2, rfl, h5, h6⟩ := G2.kids
  have G2 : Hide (ER.Kids w5 t (.slice p2 n2 cap2)) := ⟨p2, n2, cap2, rfl, h5, h6⟩
  clear Bx h5 h6
  have X := Ex.new w5 k a c (.slice p2 n2 cap2) 25
  have Bn := below_new w5 (.cells #[.int .i64 k, .int .i64 a, .int .i64 c, .slice p2 n2 cap2] 25)
  have K1 := iExprOk_any k a c t (.slice p2 n2 cap2) _ (G2.out.kept Bn)
  replace K1 := Hide.mk K1
  have ⟨X0, X1, X2, X3⟩ := X
  go_wp2_with fail
  clear X0 X1 X2 X3
  replace E := E.kept Bn
  replace B := below1 B Bn
  replace G2 := Hide.mk (G2.out.kept Bn)
  generalize (w5.alloc (.cells #[.int .i64 k, .int .i64 a, .int .i64 c, .slice p2 n2 cap2] 25)) = w6 at *
  refine (K1.out).mono ?_
  clear K1 Bn
  rintro e w7 ⟨rfl, Bx⟩
  replace E := E.kept Bx
  replace X := X.kept Bx
  replace B := below1 B Bx
  replace G2 := Hide.mk (G2.out.kept Bx)
  clear Bx
  generalize okB k a c t = ok
  go_wp2_with fail
  have a0 := cell_regrown E.c0
  have a1 := cell_regrown E.c1
  have a2 := cell_regrown E.c2
  have a3 := cell_regrown E.c3
  have y0 := cell_regrown X.c0
  have y1 := cell_regrown X.c1
  have y2 := cell_regrown X.c2
  have y3 := cell_regrown X.c3
  refine LQ.region (EL.Cl w7) (EL.ndX 2 k a c t) 4 [0, 1, 2, 3] (EL.ndX_local _ _ _ _ _) (by kernel_rfl) (by kernel_rfl) (fun _ _ h => h) (EL.Cl.start w7 4) ?_
  iterate 2 (refine LQ.stepD rfl rfl (fun N hN => ?_); go_simp; apply Exists.intro; refine ⟨fun _ _ _ => ?_, hN _ _ ?_⟩; exact And.intro rfl rfl; clear hN N)
  refine LQ.stepN rfl rfl (fun N hN => ?_)
  go_simp
  refine ⟨fun f p _ => And.intro rfl (EL.copy (hk.out.kept B) hc.out 2 _ _), ?_⟩
  rintro u wn x3 rfl hx
  refine hN _ _ ?_
  clear hN N hx wn
  refine LQ.stepD rfl rfl (fun N hN => ?_)
  go_simp
  refine ⟨.bool true, fun f p hk' => ?_, hN _ _ ?_⟩
  · have hx : ER.Kids (grow (redrawn w7 p.d) p.os) t x3 := by
      have h := (hk' _ (List.mem_cons_self ..)).2
      first
        | exact h
        | (obtain ⟨x4, ex, hx⟩ := h; cases ex; exact hx)
    exact ⟨rfl, EL.same G2.out hc.out 2 _ _ hx⟩
  clear hN N
  refine LQ.lexEnd ?_
  rintro w8 ⟨p', rfl⟩ kn
  clear kn a0 a1 a2 a3 y0 y1 y2 y3
  have Bx := below_regrown w7 p'.d p'.os
  generalize grow (redrawn w7 p'.d) p'.os = w8 at *
  replace B := below1 B Bx
  simp only [List.drop]
  go_wp2
  go_ret
  exact ⟨rfl, B⟩

set_option maxRecDepth 100000 in
theorem lifted (os : Os) (started : os.Started) (H : Type) (enc : TypeId × Value → H) :
    ReturnsInHanded {} Try.checked os 5 .any (Rows.fnExactExprOkSpec.pre6 enc Try.prog Try.f5 Rows.fnExactExprOkRow.domain false) (Rows.fnExactExprOkSpec.post enc Try.prog Try.f5 false true false false) := by
  refine returnsInHanded_of_change (C := Try.checked) own started (by kernel_rfl) Try.func5
    (ChangeSpec.witness6 (enc := enc) (C := Try.checked) false ⟨#[], #[.agg #[.int .i64 0, .int .i64 0, .int .i64 0, .slice none 0 0]], []⟩ 8 (by kernel_rfl) (by kernel_rfl) (by kernel_rfl) (by kernel_rfl)) ?_
  intro W base args ds gs before hval0 hW hcnd _
  have hval : ∀ (j : Nat) t v, Try.f5.params[j]? = some t → args[j]? = some v → Value.okWide Try.prog W .any base t v := hval0
  have hW' := hW
  obtain ⟨p, q, hA0, hV, rfl, hfz, hnd⟩ := hW
  have hA : DataW.TrodAll enc Try.prog W 0 (fun _ => true) true Try.f5.params.toList args.toList ds p := hA0
  rw [Try.params5] at hA hval
  obtain ⟨v0, vs0, d0, ds0, p0, q0, hargs0, rfl, rfl, h0, r0⟩ := trodAll_cons hA
  obtain ⟨rfl, rfl, rfl⟩ := trodAll_nil r0
  obtain rfl : args = #[v0] := by cases args; simp_all
  obtain ⟨rfl, rfl⟩ := trodVars_none hV
  have k0 := h0
  have lt0 : ∀ x ∈ p0, x.block < W.heap.size := by obtain ⟨m, hm⟩ := k0; exact DataW.trod_lt m _ _ _ hm
  obtain ⟨k, a, c, t, u, rfl, hk, hl, hlo⟩ := ER.open_expr (hval 0 33 v0 rfl rfl) h0
  clear hA0 hval0
  refine (walk k a c t u  W hk hl hlo ).mono fun e W' ⟨he, bel⟩ => ?_
  subst he
  exact ⟨_, rfl, _, _, _, [], _, [], hW', (trodAll_cons_mk (shut_bool Try.underlying4 _) trodAll_mk0), (trodAll_cons_mk (Below.trod laidOut (by kernel_rfl) (of_decide_eq_true (by kernel_rfl)) k0 bel lt0) trodAll_mk0), rfl, bel.frame _, fun h => by cases h⟩

theorem over : Rows.fnExactExprOkRow.holds Try.pinned (OpenSpec.ofChange Rows.fnExactExprOkSpec) :=
  OpenClaim.holds_of_wide 5 Try.f5 rfl rfl rfl rfl rfl rfl rfl ⟨rfl, rfl, rfl, rfl, rfl⟩ rfl rfl rfl rfl rfl (by kernel_rfl) Try.func5 (by kernel_rfl)
    (of_decide_eq_true (by kernel_rfl)) (by unfold Func.isWrapper; first | (rw [if_pos (by decide +kernel)]; kernel_rfl) | (rw [if_neg (by decide +kernel)]; exact ⟨rfl, rfl⟩))
    (fun os started H enc _ => lifted os started H enc)

theorem proved : Rows.FnExactExprOkSaid :=
  over
end Go.Proofs.Ytlkompbigpbefab.fnExactExprOk
namespace Go.Proofs.Ytlkompbigpbefab
theorem fnExactExprOk_holds : Rows.FnExactExprOkSaid := fnExactExprOk.proved
#print axioms fnExactExprOk_holds
end Go.Proofs.Ytlkompbigpbefab
