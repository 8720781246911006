/-
  How large a tree is, and whether it is ok: what the specification's l31Size and ExprOk return.
-/
import Derived.Test.YtlkompbigpbefabExprRep
namespace Go.Proofs.Ytlkompbigpbefab
open Go.RowKit Go.Sort
set_option linter.unusedVariables false
set_option maxRecDepth 8000
namespace ER
open EM SK
theorem size_no0 (k a b most : Int) (p : Option Addr) (n cap : Nat) (m0 : -1000000 ≤ most) (m1 : most < 1) (w : World) :
    Calls Try.prog 22 #[exV k a b (.slice p n cap), .int .i64 most] w fun e w' => e = .returned (.int .i64 (most + 1)) ∧ Below w.heap.size w w' := by
  have E := Ex.new w k a b (.slice p n cap) 25
  have B := below_new w (.cells #[.int .i64 k, .int .i64 a, .int .i64 b, .slice p n cap] 25)
  go_enter Try.func22, Try.ntmps22
  have ⟨E0, E1, E2, E3⟩ := E
  go_wp2_with fail
  clear E0 E1 E2 E3
  generalize (w.alloc (.cells #[.int .i64 k, .int .i64 a, .int .i64 b, .slice p n cap] 25)) = w1 at *
  have Ek0 := cell_regrown E.c0
  have Ek1 := cell_regrown E.c1
  have Ek2 := cell_regrown E.c2
  have Ek3 := cell_regrown E.c3
  refine KS.region (by kernel_rfl) (by kernel_rfl) ?_
  repeat (refine KS.step (fun K hK => ?_); go_simp; refine hK _ ?_; clear hK K)
  refine KS.nil ?_
  rintro _ ⟨p', rfl⟩
  have Bx := below_regrown w1 p'.d p'.os
  generalize grow (redrawn w1 p'.d) p'.os = w2 at *
  clear Ek0 Ek1 Ek2 Ek3
  replace E := E.kept Bx
  replace B := below1 B Bx
  clear Bx
  have ⟨E0, E1, E2, E3⟩ := E
  go_wp2
  go_ret
  exact ⟨rfl, B⟩
theorem size_no1 (k a b most : Int) (p : Option Addr) (n cap : Nat) (m0 : 1 ≤ most) (m1 : most ≤ 1000000) (h : ¬ (n : Int) = kidsN k) (w : World) :
    Calls Try.prog 22 #[exV k a b (.slice p n cap), .int .i64 most] w fun e w' => e = .returned (.int .i64 (most + 1)) ∧ Below w.heap.size w w' := by
  have K := fun w => l31Kids_any k w
  have hh : ((n : Int) != kidsN k) = true := by simpa using h
  clear h
  generalize kidsN k = m at *
  have E := Ex.new w k a b (.slice p n cap) 25
  have B := below_new w (.cells #[.int .i64 k, .int .i64 a, .int .i64 b, .slice p n cap] 25)
  go_enter Try.func22, Try.ntmps22
  have ⟨E0, E1, E2, E3⟩ := E
  go_wp2_with fail
  clear E0 E1 E2 E3
  generalize (w.alloc (.cells #[.int .i64 k, .int .i64 a, .int .i64 b, .slice p n cap] 25)) = w1 at *
  have Ek0 := cell_regrown E.c0
  have Ek1 := cell_regrown E.c1
  have Ek2 := cell_regrown E.c2
  have Ek3 := cell_regrown E.c3
  have c1 : ∀ d os, Calls Try.prog 38 #[.int .i64 k] (grow (redrawn w1 d) os) fun e w'' => e = .returned (.int .i64 m) ∧ ∃ p : Regrown, w'' = grow (redrawn w1 p.d) p.os := fun d os => Calls.regrown_of (K _)
  refine KS.region (by kernel_rfl) (by kernel_rfl) ?_
  repeat (refine KS.step (fun K hK => ?_); go_simp; refine hK _ ?_; clear hK K)
  refine KS.step (fun K hK => ?_)
  go_simp
  apply Exists.intro
  refine ⟨fun _ => ?_, hK _ ?_⟩
  exact c1 _ _
  clear hK K
  repeat (refine KS.step (fun K hK => ?_); go_simp; refine hK _ ?_; clear hK K)
  refine KS.nil ?_
  rintro _ ⟨p', rfl⟩
  have Bx := below_regrown w1 p'.d p'.os
  generalize grow (redrawn w1 p'.d) p'.os = w2 at *
  clear Ek0 Ek1 Ek2 Ek3 c1
  replace E := E.kept Bx
  replace B := below1 B Bx
  clear Bx
  have ⟨E0, E1, E2, E3⟩ := E
  go_wp2
  go_ret
  exact ⟨rfl, B⟩
theorem size_num_no1 (k a b most : Int) (p : Option Addr) (cap : Nat) (m0 : 1 ≤ most) (m1 : most ≤ 1000000) (hk : k = 1) (h1 : NM.inB a (-1000) 1000 = false) (w : World) :
    Calls Try.prog 22 #[exV k a b (.slice p 0 cap), .int .i64 most] w fun e w' => e = .returned (.int .i64 (most + 1)) ∧ Below w.heap.size w w' := by
  have K := fun w => l31Kids_any k w
  subst hk
  rw [show kidsN 1 = 0 from rfl] at K
  have A1 := fun w => NW.l6In_any a (-1000) 1000 w
  rw [h1] at A1
  clear h1
  have E := Ex.new w 1 a b (.slice p 0 cap) 25
  have B := below_new w (.cells #[.int .i64 1, .int .i64 a, .int .i64 b, .slice p 0 cap] 25)
  go_enter Try.func22, Try.ntmps22
  have ⟨E0, E1, E2, E3⟩ := E
  go_wp2_with fail
  clear E0 E1 E2 E3
  generalize (w.alloc (.cells #[.int .i64 1, .int .i64 a, .int .i64 b, .slice p 0 cap] 25)) = w1 at *
  have Ek0 := cell_regrown E.c0
  have Ek1 := cell_regrown E.c1
  have Ek2 := cell_regrown E.c2
  have Ek3 := cell_regrown E.c3
  have c1 : ∀ d os, Calls Try.prog 38 #[.int .i64 1] (grow (redrawn w1 d) os) fun e w'' => e = .returned (.int .i64 0) ∧ ∃ p : Regrown, w'' = grow (redrawn w1 p.d) p.os := fun d os => Calls.regrown_of (K _)
  refine KS.region (by kernel_rfl) (by kernel_rfl) ?_
  repeat (refine KS.step (fun K hK => ?_); go_simp; refine hK _ ?_; clear hK K)
  refine KS.step (fun K hK => ?_)
  go_simp
  apply Exists.intro
  refine ⟨fun _ => ?_, hK _ ?_⟩
  exact c1 _ _
  clear hK K
  repeat (refine KS.step (fun K hK => ?_); go_simp; refine hK _ ?_; clear hK K)
  refine KS.nil ?_
  rintro _ ⟨p', rfl⟩
  have Bx := below_regrown w1 p'.d p'.os
  generalize grow (redrawn w1 p'.d) p'.os = w2 at *
  clear Ek0 Ek1 Ek2 Ek3 c1
  replace E := E.kept Bx
  replace B := below1 B Bx
  clear Bx
  have ⟨E0, E1, E2, E3⟩ := E
  go_wp2_with fail
  clear E0 E1 E2 E3
  refine (A1 _).mono ?_
  rintro e w' ⟨rfl, rfl⟩
  have ⟨E0, E1, E2, E3⟩ := E
  go_wp2_with fail
  clear E0 E1 E2 E3
  refine (K _).mono ?_
  rintro e w4 ⟨rfl, Bx⟩
  replace E := E.kept Bx
  replace B := below1 B Bx
  clear Bx
  have ⟨E0, E1, E2, E3⟩ := E
  go_wp2
  go_ret
  exact ⟨rfl, B⟩
theorem size_num_no2 (k a b most : Int) (p : Option Addr) (cap : Nat) (m0 : 1 ≤ most) (m1 : most ≤ 1000000) (hk : k = 1) (h1 : NM.inB a (-1000) 1000 = true) (h2 : NM.inB b 1 1000 = false) (w : World) :
    Calls Try.prog 22 #[exV k a b (.slice p 0 cap), .int .i64 most] w fun e w' => e = .returned (.int .i64 (most + 1)) ∧ Below w.heap.size w w' := by
  have K := fun w => l31Kids_any k w
  subst hk
  rw [show kidsN 1 = 0 from rfl] at K
  have A1 := fun w => NW.l6In_any a (-1000) 1000 w
  rw [h1] at A1
  have A2 := fun w => NW.l6In_any b 1 1000 w
  rw [h2] at A2
  clear h1 h2
  have E := Ex.new w 1 a b (.slice p 0 cap) 25
  have B := below_new w (.cells #[.int .i64 1, .int .i64 a, .int .i64 b, .slice p 0 cap] 25)
  go_enter Try.func22, Try.ntmps22
  have ⟨E0, E1, E2, E3⟩ := E
  go_wp2_with fail
  clear E0 E1 E2 E3
  generalize (w.alloc (.cells #[.int .i64 1, .int .i64 a, .int .i64 b, .slice p 0 cap] 25)) = w1 at *
  have Ek0 := cell_regrown E.c0
  have Ek1 := cell_regrown E.c1
  have Ek2 := cell_regrown E.c2
  have Ek3 := cell_regrown E.c3
  have c1 : ∀ d os, Calls Try.prog 38 #[.int .i64 1] (grow (redrawn w1 d) os) fun e w'' => e = .returned (.int .i64 0) ∧ ∃ p : Regrown, w'' = grow (redrawn w1 p.d) p.os := fun d os => Calls.regrown_of (K _)
  refine KS.region (by kernel_rfl) (by kernel_rfl) ?_
  repeat (refine KS.step (fun K hK => ?_); go_simp; refine hK _ ?_; clear hK K)
  refine KS.step (fun K hK => ?_)
  go_simp
  apply Exists.intro
  refine ⟨fun _ => ?_, hK _ ?_⟩
  exact c1 _ _
  clear hK K
  repeat (refine KS.step (fun K hK => ?_); go_simp; refine hK _ ?_; clear hK K)
  refine KS.nil ?_
  rintro _ ⟨p', rfl⟩
  have Bx := below_regrown w1 p'.d p'.os
  generalize grow (redrawn w1 p'.d) p'.os = w2 at *
  clear Ek0 Ek1 Ek2 Ek3 c1
  replace E := E.kept Bx
  replace B := below1 B Bx
  clear Bx
  have ⟨E0, E1, E2, E3⟩ := E
  go_wp2_with fail
  clear E0 E1 E2 E3
  refine (A1 _).mono ?_
  rintro e w' ⟨rfl, rfl⟩
  have ⟨E0, E1, E2, E3⟩ := E
  go_wp2_with fail
  clear E0 E1 E2 E3
  refine (A2 _).mono ?_
  rintro e w' ⟨rfl, rfl⟩
  have ⟨E0, E1, E2, E3⟩ := E
  go_wp2_with fail
  clear E0 E1 E2 E3
  refine (K _).mono ?_
  rintro e w5 ⟨rfl, Bx⟩
  replace E := E.kept Bx
  replace B := below1 B Bx
  clear Bx
  have ⟨E0, E1, E2, E3⟩ := E
  go_wp2
  go_ret
  exact ⟨rfl, B⟩
theorem size_num (k a b most : Int) (p : Option Addr) (cap : Nat) (m0 : 1 ≤ most) (m1 : most ≤ 1000000) (hk : k = 1) (h1 : NM.inB a (-1000) 1000 = true) (h2 : NM.inB b 1 1000 = true) (w : World) :
    Calls Try.prog 22 #[exV k a b (.slice p 0 cap), .int .i64 most] w fun e w' => e = .returned (.int .i64 (1)) ∧ Below w.heap.size w w' := by
  have K := fun w => l31Kids_any k w
  subst hk
  rw [show kidsN 1 = 0 from rfl] at K
  have A1 := fun w => NW.l6In_any a (-1000) 1000 w
  rw [h1] at A1
  have A2 := fun w => NW.l6In_any b 1 1000 w
  rw [h2] at A2
  clear h1 h2
  have E := Ex.new w 1 a b (.slice p 0 cap) 25
  have B := below_new w (.cells #[.int .i64 1, .int .i64 a, .int .i64 b, .slice p 0 cap] 25)
  go_enter Try.func22, Try.ntmps22
  have ⟨E0, E1, E2, E3⟩ := E
  go_wp2_with fail
  clear E0 E1 E2 E3
  generalize (w.alloc (.cells #[.int .i64 1, .int .i64 a, .int .i64 b, .slice p 0 cap] 25)) = w1 at *
  have Ek0 := cell_regrown E.c0
  have Ek1 := cell_regrown E.c1
  have Ek2 := cell_regrown E.c2
  have Ek3 := cell_regrown E.c3
  have c1 : ∀ d os, Calls Try.prog 38 #[.int .i64 1] (grow (redrawn w1 d) os) fun e w'' => e = .returned (.int .i64 0) ∧ ∃ p : Regrown, w'' = grow (redrawn w1 p.d) p.os := fun d os => Calls.regrown_of (K _)
  refine KS.region (by kernel_rfl) (by kernel_rfl) ?_
  repeat (refine KS.step (fun K hK => ?_); go_simp; refine hK _ ?_; clear hK K)
  refine KS.step (fun K hK => ?_)
  go_simp
  apply Exists.intro
  refine ⟨fun _ => ?_, hK _ ?_⟩
  exact c1 _ _
  clear hK K
  repeat (refine KS.step (fun K hK => ?_); go_simp; refine hK _ ?_; clear hK K)
  refine KS.nil ?_
  rintro _ ⟨p', rfl⟩
  have Bx := below_regrown w1 p'.d p'.os
  generalize grow (redrawn w1 p'.d) p'.os = w2 at *
  clear Ek0 Ek1 Ek2 Ek3 c1
  replace E := E.kept Bx
  replace B := below1 B Bx
  clear Bx
  have ⟨E0, E1, E2, E3⟩ := E
  go_wp2_with fail
  clear E0 E1 E2 E3
  refine (A1 _).mono ?_
  rintro e w' ⟨rfl, rfl⟩
  have ⟨E0, E1, E2, E3⟩ := E
  go_wp2_with fail
  clear E0 E1 E2 E3
  refine (A2 _).mono ?_
  rintro e w' ⟨rfl, rfl⟩
  have ⟨E0, E1, E2, E3⟩ := E
  go_wp2_with fail
  clear E0 E1 E2 E3
  refine (K _).mono ?_
  rintro e w5 ⟨rfl, Bx⟩
  replace E := E.kept Bx
  replace B := below1 B Bx
  clear Bx
  have ⟨E0, E1, E2, E3⟩ := E
  go_wp2_with fail
  clear E0 E1 E2 E3
  refine wp_loop_rounds 1 ?_
  rw [rounds_succ]
  have ⟨E0, E1, E2, E3⟩ := E
  go_wp2
  go_ret
  exact ⟨rfl, B⟩
theorem size_sine_no1 (k a b most : Int) (p : Option Addr) (cap : Nat) (m0 : 1 ≤ most) (m1 : most ≤ 1000000) (hk : k = 4) (h1 : NM.inB a (-129600000) 129600000 = false) (w : World) :
    Calls Try.prog 22 #[exV k a b (.slice p 0 cap), .int .i64 most] w fun e w' => e = .returned (.int .i64 (most + 1)) ∧ Below w.heap.size w w' := by
  have K := fun w => l31Kids_any k w
  subst hk
  rw [show kidsN 4 = 0 from rfl] at K
  have A1 := fun w => NW.l6In_any a (-129600000) 129600000 w
  rw [h1] at A1
  clear h1
  have E := Ex.new w 4 a b (.slice p 0 cap) 25
  have B := below_new w (.cells #[.int .i64 4, .int .i64 a, .int .i64 b, .slice p 0 cap] 25)
  go_enter Try.func22, Try.ntmps22
  have ⟨E0, E1, E2, E3⟩ := E
  go_wp2_with fail
  clear E0 E1 E2 E3
  generalize (w.alloc (.cells #[.int .i64 4, .int .i64 a, .int .i64 b, .slice p 0 cap] 25)) = w1 at *
  have Ek0 := cell_regrown E.c0
  have Ek1 := cell_regrown E.c1
  have Ek2 := cell_regrown E.c2
  have Ek3 := cell_regrown E.c3
  have c1 : ∀ d os, Calls Try.prog 38 #[.int .i64 4] (grow (redrawn w1 d) os) fun e w'' => e = .returned (.int .i64 0) ∧ ∃ p : Regrown, w'' = grow (redrawn w1 p.d) p.os := fun d os => Calls.regrown_of (K _)
  refine KS.region (by kernel_rfl) (by kernel_rfl) ?_
  repeat (refine KS.step (fun K hK => ?_); go_simp; refine hK _ ?_; clear hK K)
  refine KS.step (fun K hK => ?_)
  go_simp
  apply Exists.intro
  refine ⟨fun _ => ?_, hK _ ?_⟩
  exact c1 _ _
  clear hK K
  repeat (refine KS.step (fun K hK => ?_); go_simp; refine hK _ ?_; clear hK K)
  refine KS.nil ?_
  rintro _ ⟨p', rfl⟩
  have Bx := below_regrown w1 p'.d p'.os
  generalize grow (redrawn w1 p'.d) p'.os = w2 at *
  clear Ek0 Ek1 Ek2 Ek3 c1
  replace E := E.kept Bx
  replace B := below1 B Bx
  clear Bx
  have ⟨E0, E1, E2, E3⟩ := E
  go_wp2_with fail
  clear E0 E1 E2 E3
  refine (A1 _).mono ?_
  rintro e w' ⟨rfl, rfl⟩
  have ⟨E0, E1, E2, E3⟩ := E
  go_wp2_with fail
  clear E0 E1 E2 E3
  refine (K _).mono ?_
  rintro e w4 ⟨rfl, Bx⟩
  replace E := E.kept Bx
  replace B := below1 B Bx
  clear Bx
  have ⟨E0, E1, E2, E3⟩ := E
  go_wp2
  go_ret
  exact ⟨rfl, B⟩
theorem size_sine_no2 (k a b most : Int) (p : Option Addr) (cap : Nat) (m0 : 1 ≤ most) (m1 : most ≤ 1000000) (hk : k = 4) (h1 : NM.inB a (-129600000) 129600000 = true) (h2 : (b == 0) = false) (w : World) :
    Calls Try.prog 22 #[exV k a b (.slice p 0 cap), .int .i64 most] w fun e w' => e = .returned (.int .i64 (most + 1)) ∧ Below w.heap.size w w' := by
  have K := fun w => l31Kids_any k w
  subst hk
  rw [show kidsN 4 = 0 from rfl] at K
  have A1 := fun w => NW.l6In_any a (-129600000) 129600000 w
  rw [h1] at A1
  clear h1
  have E := Ex.new w 4 a b (.slice p 0 cap) 25
  have B := below_new w (.cells #[.int .i64 4, .int .i64 a, .int .i64 b, .slice p 0 cap] 25)
  go_enter Try.func22, Try.ntmps22
  have ⟨E0, E1, E2, E3⟩ := E
  go_wp2_with fail
  clear E0 E1 E2 E3
  generalize (w.alloc (.cells #[.int .i64 4, .int .i64 a, .int .i64 b, .slice p 0 cap] 25)) = w1 at *
  have Ek0 := cell_regrown E.c0
  have Ek1 := cell_regrown E.c1
  have Ek2 := cell_regrown E.c2
  have Ek3 := cell_regrown E.c3
  have c1 : ∀ d os, Calls Try.prog 38 #[.int .i64 4] (grow (redrawn w1 d) os) fun e w'' => e = .returned (.int .i64 0) ∧ ∃ p : Regrown, w'' = grow (redrawn w1 p.d) p.os := fun d os => Calls.regrown_of (K _)
  refine KS.region (by kernel_rfl) (by kernel_rfl) ?_
  repeat (refine KS.step (fun K hK => ?_); go_simp; refine hK _ ?_; clear hK K)
  refine KS.step (fun K hK => ?_)
  go_simp
  apply Exists.intro
  refine ⟨fun _ => ?_, hK _ ?_⟩
  exact c1 _ _
  clear hK K
  repeat (refine KS.step (fun K hK => ?_); go_simp; refine hK _ ?_; clear hK K)
  refine KS.nil ?_
  rintro _ ⟨p', rfl⟩
  have Bx := below_regrown w1 p'.d p'.os
  generalize grow (redrawn w1 p'.d) p'.os = w2 at *
  clear Ek0 Ek1 Ek2 Ek3 c1
  replace E := E.kept Bx
  replace B := below1 B Bx
  clear Bx
  have ⟨E0, E1, E2, E3⟩ := E
  go_wp2_with fail
  clear E0 E1 E2 E3
  refine (A1 _).mono ?_
  rintro e w' ⟨rfl, rfl⟩
  have ⟨E0, E1, E2, E3⟩ := E
  go_wp2_with fail
  clear E0 E1 E2 E3
  refine (K _).mono ?_
  rintro e w4 ⟨rfl, Bx⟩
  replace E := E.kept Bx
  replace B := below1 B Bx
  clear Bx
  have ⟨E0, E1, E2, E3⟩ := E
  go_wp2
  go_ret
  exact ⟨rfl, B⟩
theorem size_sine (k a most : Int) (p : Option Addr) (cap : Nat) (m0 : 1 ≤ most) (m1 : most ≤ 1000000) (hk : k = 4) (h1 : NM.inB a (-129600000) 129600000 = true) (w : World) :
    Calls Try.prog 22 #[exV k a 0 (.slice p 0 cap), .int .i64 most] w fun e w' => e = .returned (.int .i64 (1)) ∧ Below w.heap.size w w' := by
  have K := fun w => l31Kids_any k w
  subst hk
  rw [show kidsN 4 = 0 from rfl] at K
  have A1 := fun w => NW.l6In_any a (-129600000) 129600000 w
  rw [h1] at A1
  clear h1
  have E := Ex.new w 4 a 0 (.slice p 0 cap) 25
  have B := below_new w (.cells #[.int .i64 4, .int .i64 a, .int .i64 0, .slice p 0 cap] 25)
  go_enter Try.func22, Try.ntmps22
  have ⟨E0, E1, E2, E3⟩ := E
  go_wp2_with fail
  clear E0 E1 E2 E3
  generalize (w.alloc (.cells #[.int .i64 4, .int .i64 a, .int .i64 0, .slice p 0 cap] 25)) = w1 at *
  have Ek0 := cell_regrown E.c0
  have Ek1 := cell_regrown E.c1
  have Ek2 := cell_regrown E.c2
  have Ek3 := cell_regrown E.c3
  have c1 : ∀ d os, Calls Try.prog 38 #[.int .i64 4] (grow (redrawn w1 d) os) fun e w'' => e = .returned (.int .i64 0) ∧ ∃ p : Regrown, w'' = grow (redrawn w1 p.d) p.os := fun d os => Calls.regrown_of (K _)
  refine KS.region (by kernel_rfl) (by kernel_rfl) ?_
  repeat (refine KS.step (fun K hK => ?_); go_simp; refine hK _ ?_; clear hK K)
  refine KS.step (fun K hK => ?_)
  go_simp
  apply Exists.intro
  refine ⟨fun _ => ?_, hK _ ?_⟩
  exact c1 _ _
  clear hK K
  repeat (refine KS.step (fun K hK => ?_); go_simp; refine hK _ ?_; clear hK K)
  refine KS.nil ?_
  rintro _ ⟨p', rfl⟩
  have Bx := below_regrown w1 p'.d p'.os
  generalize grow (redrawn w1 p'.d) p'.os = w2 at *
  clear Ek0 Ek1 Ek2 Ek3 c1
  replace E := E.kept Bx
  replace B := below1 B Bx
  clear Bx
  have ⟨E0, E1, E2, E3⟩ := E
  go_wp2_with fail
  clear E0 E1 E2 E3
  refine (A1 _).mono ?_
  rintro e w' ⟨rfl, rfl⟩
  have ⟨E0, E1, E2, E3⟩ := E
  go_wp2_with fail
  clear E0 E1 E2 E3
  refine (K _).mono ?_
  rintro e w4 ⟨rfl, Bx⟩
  replace E := E.kept Bx
  replace B := below1 B Bx
  clear Bx
  have ⟨E0, E1, E2, E3⟩ := E
  go_wp2_with fail
  clear E0 E1 E2 E3
  refine wp_loop_rounds 1 ?_
  rw [rounds_succ]
  have ⟨E0, E1, E2, E3⟩ := E
  go_wp2
  go_ret
  exact ⟨rfl, B⟩
theorem size_of1_no1 (k a b most : Int) (p : Option Addr) (cap : Nat) (m0 : 1 ≤ most) (m1 : most ≤ 1000000) (k1 : ¬ k = 1) (k4 : ¬ k = 4) (hm : kidsN k = 1) (h1 : (a == 0) = false) (w : World) :
    Calls Try.prog 22 #[exV k a b (.slice p 1 cap), .int .i64 most] w fun e w' => e = .returned (.int .i64 (most + 1)) ∧ Below w.heap.size w w' := by
  have K := fun w => l31Kids_any k w
  rw [hm] at K
  have E := Ex.new w k a b (.slice p 1 cap) 25
  have B := below_new w (.cells #[.int .i64 k, .int .i64 a, .int .i64 b, .slice p 1 cap] 25)
  go_enter Try.func22, Try.ntmps22
  have ⟨E0, E1, E2, E3⟩ := E
  go_wp2_with fail
  clear E0 E1 E2 E3
  generalize (w.alloc (.cells #[.int .i64 k, .int .i64 a, .int .i64 b, .slice p 1 cap] 25)) = w1 at *
  have Ek0 := cell_regrown E.c0
  have Ek1 := cell_regrown E.c1
  have Ek2 := cell_regrown E.c2
  have Ek3 := cell_regrown E.c3
  have c1 : ∀ d os, Calls Try.prog 38 #[.int .i64 k] (grow (redrawn w1 d) os) fun e w'' => e = .returned (.int .i64 1) ∧ ∃ p : Regrown, w'' = grow (redrawn w1 p.d) p.os := fun d os => Calls.regrown_of (K _)
  refine KS.region (by kernel_rfl) (by kernel_rfl) ?_
  repeat (refine KS.step (fun K hK => ?_); go_simp; refine hK _ ?_; clear hK K)
  refine KS.step (fun K hK => ?_)
  go_simp
  apply Exists.intro
  refine ⟨fun _ => ?_, hK _ ?_⟩
  exact c1 _ _
  clear hK K
  repeat (refine KS.step (fun K hK => ?_); go_simp; refine hK _ ?_; clear hK K)
  refine KS.nil ?_
  rintro _ ⟨p', rfl⟩
  have Bx := below_regrown w1 p'.d p'.os
  generalize grow (redrawn w1 p'.d) p'.os = w2 at *
  clear Ek0 Ek1 Ek2 Ek3 c1
  replace E := E.kept Bx
  replace B := below1 B Bx
  clear Bx
  have ⟨E0, E1, E2, E3⟩ := E
  go_wp2_with fail
  clear E0 E1 E2 E3
  refine (K _).mono ?_
  rintro e w3 ⟨rfl, Bx⟩
  replace E := E.kept Bx
  replace B := below1 B Bx
  clear Bx
  have ⟨E0, E1, E2, E3⟩ := E
  go_wp2
  go_ret
  exact ⟨rfl, B⟩
theorem size_of1_no2 (k a b most : Int) (p : Option Addr) (cap : Nat) (m0 : 1 ≤ most) (m1 : most ≤ 1000000) (k1 : ¬ k = 1) (k4 : ¬ k = 4) (hm : kidsN k = 1) (h1 : a = 0) (h2 : (b == 0) = false) (w : World) :
    Calls Try.prog 22 #[exV k a b (.slice p 1 cap), .int .i64 most] w fun e w' => e = .returned (.int .i64 (most + 1)) ∧ Below w.heap.size w w' := by
  have K := fun w => l31Kids_any k w
  rw [hm] at K
  subst h1
  have E := Ex.new w k 0 b (.slice p 1 cap) 25
  have B := below_new w (.cells #[.int .i64 k, .int .i64 0, .int .i64 b, .slice p 1 cap] 25)
  go_enter Try.func22, Try.ntmps22
  have ⟨E0, E1, E2, E3⟩ := E
  go_wp2_with fail
  clear E0 E1 E2 E3
  generalize (w.alloc (.cells #[.int .i64 k, .int .i64 0, .int .i64 b, .slice p 1 cap] 25)) = w1 at *
  have Ek0 := cell_regrown E.c0
  have Ek1 := cell_regrown E.c1
  have Ek2 := cell_regrown E.c2
  have Ek3 := cell_regrown E.c3
  have c1 : ∀ d os, Calls Try.prog 38 #[.int .i64 k] (grow (redrawn w1 d) os) fun e w'' => e = .returned (.int .i64 1) ∧ ∃ p : Regrown, w'' = grow (redrawn w1 p.d) p.os := fun d os => Calls.regrown_of (K _)
  refine KS.region (by kernel_rfl) (by kernel_rfl) ?_
  repeat (refine KS.step (fun K hK => ?_); go_simp; refine hK _ ?_; clear hK K)
  refine KS.step (fun K hK => ?_)
  go_simp
  apply Exists.intro
  refine ⟨fun _ => ?_, hK _ ?_⟩
  exact c1 _ _
  clear hK K
  repeat (refine KS.step (fun K hK => ?_); go_simp; refine hK _ ?_; clear hK K)
  refine KS.nil ?_
  rintro _ ⟨p', rfl⟩
  have Bx := below_regrown w1 p'.d p'.os
  generalize grow (redrawn w1 p'.d) p'.os = w2 at *
  clear Ek0 Ek1 Ek2 Ek3 c1
  replace E := E.kept Bx
  replace B := below1 B Bx
  clear Bx
  have ⟨E0, E1, E2, E3⟩ := E
  go_wp2_with fail
  clear E0 E1 E2 E3
  refine (K _).mono ?_
  rintro e w3 ⟨rfl, Bx⟩
  replace E := E.kept Bx
  replace B := below1 B Bx
  clear Bx
  have ⟨E0, E1, E2, E3⟩ := E
  go_wp2
  go_ret
  exact ⟨rfl, B⟩
theorem size_of2_no1 (k a b most : Int) (p : Option Addr) (cap : Nat) (m0 : 1 ≤ most) (m1 : most ≤ 1000000) (k1 : ¬ k = 1) (k4 : ¬ k = 4) (hm : kidsN k = 2) (h1 : (a == 0) = false) (w : World) :
    Calls Try.prog 22 #[exV k a b (.slice p 2 cap), .int .i64 most] w fun e w' => e = .returned (.int .i64 (most + 1)) ∧ Below w.heap.size w w' := by
  have K := fun w => l31Kids_any k w
  rw [hm] at K
  have E := Ex.new w k a b (.slice p 2 cap) 25
  have B := below_new w (.cells #[.int .i64 k, .int .i64 a, .int .i64 b, .slice p 2 cap] 25)
  go_enter Try.func22, Try.ntmps22
  have ⟨E0, E1, E2, E3⟩ := E
  go_wp2_with fail
  clear E0 E1 E2 E3
  generalize (w.alloc (.cells #[.int .i64 k, .int .i64 a, .int .i64 b, .slice p 2 cap] 25)) = w1 at *
  have Ek0 := cell_regrown E.c0
  have Ek1 := cell_regrown E.c1
  have Ek2 := cell_regrown E.c2
  have Ek3 := cell_regrown E.c3
  have c1 : ∀ d os, Calls Try.prog 38 #[.int .i64 k] (grow (redrawn w1 d) os) fun e w'' => e = .returned (.int .i64 2) ∧ ∃ p : Regrown, w'' = grow (redrawn w1 p.d) p.os := fun d os => Calls.regrown_of (K _)
  refine KS.region (by kernel_rfl) (by kernel_rfl) ?_
  repeat (refine KS.step (fun K hK => ?_); go_simp; refine hK _ ?_; clear hK K)
  refine KS.step (fun K hK => ?_)
  go_simp
  apply Exists.intro
  refine ⟨fun _ => ?_, hK _ ?_⟩
  exact c1 _ _
  clear hK K
  repeat (refine KS.step (fun K hK => ?_); go_simp; refine hK _ ?_; clear hK K)
  refine KS.nil ?_
  rintro _ ⟨p', rfl⟩
  have Bx := below_regrown w1 p'.d p'.os
  generalize grow (redrawn w1 p'.d) p'.os = w2 at *
  clear Ek0 Ek1 Ek2 Ek3 c1
  replace E := E.kept Bx
  replace B := below1 B Bx
  clear Bx
  have ⟨E0, E1, E2, E3⟩ := E
  go_wp2_with fail
  clear E0 E1 E2 E3
  refine (K _).mono ?_
  rintro e w3 ⟨rfl, Bx⟩
  replace E := E.kept Bx
  replace B := below1 B Bx
  clear Bx
  have ⟨E0, E1, E2, E3⟩ := E
  go_wp2
  go_ret
  exact ⟨rfl, B⟩
theorem size_of2_no2 (k a b most : Int) (p : Option Addr) (cap : Nat) (m0 : 1 ≤ most) (m1 : most ≤ 1000000) (k1 : ¬ k = 1) (k4 : ¬ k = 4) (hm : kidsN k = 2) (h1 : a = 0) (h2 : (b == 0) = false) (w : World) :
    Calls Try.prog 22 #[exV k a b (.slice p 2 cap), .int .i64 most] w fun e w' => e = .returned (.int .i64 (most + 1)) ∧ Below w.heap.size w w' := by
  have K := fun w => l31Kids_any k w
  rw [hm] at K
  subst h1
  have E := Ex.new w k 0 b (.slice p 2 cap) 25
  have B := below_new w (.cells #[.int .i64 k, .int .i64 0, .int .i64 b, .slice p 2 cap] 25)
  go_enter Try.func22, Try.ntmps22
  have ⟨E0, E1, E2, E3⟩ := E
  go_wp2_with fail
  clear E0 E1 E2 E3
  generalize (w.alloc (.cells #[.int .i64 k, .int .i64 0, .int .i64 b, .slice p 2 cap] 25)) = w1 at *
  have Ek0 := cell_regrown E.c0
  have Ek1 := cell_regrown E.c1
  have Ek2 := cell_regrown E.c2
  have Ek3 := cell_regrown E.c3
  have c1 : ∀ d os, Calls Try.prog 38 #[.int .i64 k] (grow (redrawn w1 d) os) fun e w'' => e = .returned (.int .i64 2) ∧ ∃ p : Regrown, w'' = grow (redrawn w1 p.d) p.os := fun d os => Calls.regrown_of (K _)
  refine KS.region (by kernel_rfl) (by kernel_rfl) ?_
  repeat (refine KS.step (fun K hK => ?_); go_simp; refine hK _ ?_; clear hK K)
  refine KS.step (fun K hK => ?_)
  go_simp
  apply Exists.intro
  refine ⟨fun _ => ?_, hK _ ?_⟩
  exact c1 _ _
  clear hK K
  repeat (refine KS.step (fun K hK => ?_); go_simp; refine hK _ ?_; clear hK K)
  refine KS.nil ?_
  rintro _ ⟨p', rfl⟩
  have Bx := below_regrown w1 p'.d p'.os
  generalize grow (redrawn w1 p'.d) p'.os = w2 at *
  clear Ek0 Ek1 Ek2 Ek3 c1
  replace E := E.kept Bx
  replace B := below1 B Bx
  clear Bx
  have ⟨E0, E1, E2, E3⟩ := E
  go_wp2_with fail
  clear E0 E1 E2 E3
  refine (K _).mono ?_
  rintro e w3 ⟨rfl, Bx⟩
  replace E := E.kept Bx
  replace B := below1 B Bx
  clear Bx
  have ⟨E0, E1, E2, E3⟩ := E
  go_wp2
  go_ret
  exact ⟨rfl, B⟩
end ER
end Go.Proofs.Ytlkompbigpbefab
