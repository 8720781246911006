/-
  How large a tree is: of something with one of Kids.
-/
import Derived.Test.YtlkompbigpbefabExprSize2
namespace Go.Proofs.Ytlkompbigpbefab
open Go.RowKit Go.Sort
set_option linter.unusedVariables false
set_option maxRecDepth 8000
namespace ER
open EM SK
set_option maxHeartbeats 4000000 in
theorem size_of1 (k1 a1 b1 : Int) (t1 : F) (k most : Int) (x o cap : Nat) (n1' : ¬ k = 1) (n4' : ¬ k = 4) (hm : kidsN k = 1) (m0 : 1 ≤ most) (m1 : most ≤ 1000000) (h1 : PS t1) (w : World) (R : Row w (F.cons k1 a1 b1 t1 F.nil) x o):
    Calls Try.prog 22 #[exV k 0 0 (.slice (some ⟨x, o, none⟩) 1 cap), .int .i64 most] w fun e w' => e = .returned (.int .i64 (szV (formB k1 a1 b1 t1.len && t1.okF) (2 + t1.cnt) most)) ∧ Below w.heap.size w w' := by
  have K := fun w => l31Kids_any k w
  rw [hm] at K
  have E := Ex.new w k 0 0 (.slice (some ⟨x, o, none⟩) 1 cap) 25
  have B := below_new w (.cells #[.int .i64 k, .int .i64 0, .int .i64 0, .slice (some ⟨x, o, none⟩) 1 cap] 25)
  replace R := R.kept B
  go_enter Try.func22, Try.ntmps22
  have ⟨E0, E1, E2, E3⟩ := E
  go_wp2_with fail
  clear E0 E1 E2 E3
  generalize (w.alloc (.cells #[.int .i64 k, .int .i64 0, .int .i64 0, .slice (some ⟨x, o, none⟩) 1 cap] 25)) = w1 at *
  have Ek0 := cell_regrown E.c0
  have Ek1 := cell_regrown E.c1
  have Ek2 := cell_regrown E.c2
  have Ek3 := cell_regrown E.c3
  have c1 : ∀ d os, Calls Try.prog 38 #[.int .i64 k] (grow (redrawn w1 d) os) fun e w'' => e = .returned (.int .i64 1) ∧ ∃ p : Regrown, w'' = grow (redrawn w1 p.d) p.os := fun d os => Calls.regrown_of (K _)
  refine KS.region (by kernel_rfl) (by kernel_rfl) ?_
  repeat (refine KS.step (fun K hK => ?_); go_simp; refine hK _ ?_; clear hK K)
  refine KS.step (fun K hK => ?_)
  go_simp
  apply Exists.intro
  refine ⟨fun _ => ?_, hK _ ?_⟩
  exact c1 _ _
  clear hK K
  repeat (refine KS.step (fun K hK => ?_); go_simp; refine hK _ ?_; clear hK K)
  refine KS.nil ?_
  rintro _ ⟨p', rfl⟩
  have Bx := below_regrown w1 p'.d p'.os
  generalize grow (redrawn w1 p'.d) p'.os = w2 at *
  clear Ek0 Ek1 Ek2 Ek3 c1
  replace E := E.kept Bx
  replace R := R.kept Bx
  replace B := below1 B Bx
  clear Bx
  have ⟨E0, E1, E2, E3⟩ := E
  go_wp2_with fail
  clear E0 E1 E2 E3
  refine (K _).mono ?_
  rintro e w3 ⟨rfl, Bx⟩
  replace E := E.kept Bx
  replace R := R.kept Bx
  replace B := below1 B Bx
  clear Bx
  clear K
  have ⟨E0, E1, E2, E3⟩ := E
  go_wp2_with fail
  clear E0 E1 E2 E3
  refine wp_loop_rounds 2 ?_
  rw [rounds_succ]
  have RR := R
  obtain ⟨⟨q0, q1, q2⟩, ⟨p1, n1, c1, q3, hn1, hr1⟩, RR⟩ := RR
  subst hn1
  have S1 := h1 k1 a1 b1 _ (most - 1) w3 ⟨p1, _, c1, rfl, rfl, hr1⟩ (by omega) (by omega)
  obtain ⟨y1, e1, z1⟩ : ∃ y, y = szV (formB k1 a1 b1 t1.len && t1.okF) (1 + t1.cnt) (most - 1) ∧ y ≤ most := ⟨_, rfl, by have := szV_le (ok := formB k1 a1 b1 t1.len && t1.okF) (c := 1 + t1.cnt) (most := most - 1); omega⟩
  have g1 := szV_lo (ok := formB k1 a1 b1 t1.len && t1.okF) (most := most - 1) t1.cnt_nn (by omega) (by omega)
  rw [← e1] at g1 S1
  replace e1 := Hide.mk e1
  clear RR
  have ⟨E0, E1, E2, E3⟩ := E
  go_wp2_with fail
  clear E0 E1 E2 E3
  refine (S1).mono ?_
  rintro e w4 ⟨rfl, Bx⟩
  replace E := E.kept Bx
  replace R := R.kept Bx
  replace B := below1 B Bx
  clear Bx
  clear q0 q1 q2 q3 hr1 S1
  by_cases d1 : 1 + y1 ≤ most
  · have ⟨E0, E1, E2, E3⟩ := E
    go_wp2_with fail
    clear E0 E1 E2 E3
    rw [rounds_succ]
    have ⟨E0, E1, E2, E3⟩ := E
    go_wp2
    go_ret
    exact ⟨by rw [fin3 e1.out d1]; first | done | rfl, B⟩
  · have ⟨E0, E1, E2, E3⟩ := E
    go_wp2
    go_ret
    exact ⟨by rw [fin1 e1.out (by omega)]; first | done | rfl, B⟩
end ER
end Go.Proofs.Ytlkompbigpbefab
