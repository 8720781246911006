/-
  What the specification's l31Span returns: of something with two Kids.
-/
import Derived.Test.YtlkompbigpbefabExprSpan1
import Derived.Test.YtlkompbigpbefabSpanWalks4
import Derived.Test.YtlkompbigpbefabSpanWalks3
import Derived.Test.YtlkompbigpbefabSineWalks2
import Derived.Test.YtlkompbigpbefabKeptStep
import Derived.Test.YtlkompbigpbefabExprSpan3
import Derived.Test.YtlkompbigpbefabQuietTail
namespace Go.Proofs.Ytlkompbigpbefab
open Go.RowKit Go.Sort Go.Joins
set_option linter.unusedVariables false
set_option maxRecDepth 8000
namespace ER
open EM SK
set_option maxHeartbeats 4000000 in
theorem span_of2 (k1 a1 b1 : Int) (t1 : F) (k2 a2 b2 : Int) (t2 : F) (k : Int) (x o cap : Nat) (hk : k = 5 ∨ k = 6 ∨ k = 7 ∨ k = 8) (X1 X2 : P) (hX : okP X1) (hX2 : okP X2) (h1 : KS1 k1 a1 b1 t1 X1) (h2 : KS1 k2 a2 b2 t2 X2) (w : World) (R0 : Row w (F.cons k1 a1 b1 t1 (F.cons k2 a2 b2 t2 F.nil)) x o) :
    Calls Try.prog 41 #[exV k 0 0 (.slice (some ⟨x, o, none⟩) 2 cap)] w fun e w' => e = .returned (.tuple #[pS (nodeS k 0 0 [X1, X2]), .bool (nodeS k 0 0 [X1, X2]).isSome]) ∧ Below w.heap.size w w' := by
  have E := (Ex.new w k 0 0 (.slice (some ⟨x, o, none⟩) 2 cap) 25).kept (below_new2 _ (.cells #[.int .i64 0, .int .i64 0] 58) (.cells #[] 58))
  have X := (Box.new2 w (.cells #[.int .i64 k, .int .i64 0, .int .i64 0, .slice (some ⟨x, o, none⟩) 2 cap] 25) 0 0 58).alloc (.cells #[] 58)
  have B := below1 (below_new w (.cells #[.int .i64 k, .int .i64 0, .int .i64 0, .slice (some ⟨x, o, none⟩) 2 cap] 25)) (below_new2 _ (.cells #[.int .i64 0, .int .i64 0] 58) (.cells #[] 58))
  have O : Own (((w.alloc (.cells #[.int .i64 k, .int .i64 0, .int .i64 0, .slice (some ⟨x, o, none⟩) 2 cap] 25)).alloc (.cells #[.int .i64 0, .int .i64 0] 58)).alloc (.cells #[] 58)) (w.heap.size + 2) (.slice (some ⟨w.heap.size + 1 + 1, 0, none⟩) 0 0) [] := ⟨rfl, .inr ⟨_, 0, #[], rfl, by omega, heap_new3 _ _ _ _, Nat.le_refl _, Nat.zero_le _, rfl, rfl⟩⟩
  have Z : w.heap.size + 3 ≤ (((w.alloc (.cells #[.int .i64 k, .int .i64 0, .int .i64 0, .slice (some ⟨x, o, none⟩) 2 cap] 25)).alloc (.cells #[.int .i64 0, .int .i64 0] 58)).alloc (.cells #[] 58)).heap.size := by simp
  go_enter Try.func41, Try.ntmps41
  go_wp2_with fail
  generalize (((w.alloc (.cells #[.int .i64 k, .int .i64 0, .int .i64 0, .slice (some ⟨x, o, none⟩) 2 cap] 25)).alloc (.cells #[.int .i64 0, .int .i64 0] 58)).alloc (.cells #[] 58)) = w1 at *
  refine wp_loop_rounds 3 ?_
  rw [rounds_succ]
  have R := R0.kept B
  obtain ⟨⟨q0, q1, q2⟩, ⟨p1, n1, c1, q3, hn1, hr1⟩, _⟩ := R
  subst hn1
  have S1 := h1 _ w1 ⟨p1, _, c1, rfl, rfl, hr1⟩
  replace S1 := Hide.mk S1
  have ⟨E0, E1, E2, E3⟩ := E
  go_wp2_with fail
  clear E0 E1 E2 E3
  refine (S1.out).mono ?_
  clear S1 q0 q1 q2 q3 hr1
  rintro e w2 ⟨rfl, Bx⟩
  replace O := O.kept Bx
  replace E := E.kept Bx
  replace X := X.kept Bx
  replace Z := Nat.le_trans Z Bx.size
  replace B := below1 B Bx
  clear Bx
  rcases X1 with _ | s
  · have pn : pS none = spV 0 0 := rfl
    have y0 := fun o => (X.alloc o).c0
    have y1 := fun o => (X.alloc o).c1
    have y2 := fun o => (X.alloc o).f0
    have y3 := fun o => (X.alloc o).f1
    obtain ⟨d0, d1, g0, g1⟩ := X
    go_wp2
    refine bodyPost_ret (v := .tuple #[.agg #[.int .i64 0, .int .i64 0], .bool false]) (by simp [results, Try.results41, go_sem, *]) rfl ⟨rfl, ?_⟩
    exact below_set2 (below1 B (below_new _ _)) (by omega) _ _
  · have pn : pS (some s) = spV s.1 s.2 := rfl
    have O2 := O.kept (below_new2 w2 (.cells #[.int .i64 s.1, .int .i64 s.2] 58) (.cells #[.int .i64 s.1, .int .i64 s.2] 58))
    have Ea := E.kept (below_new2 w2 (.cells #[.int .i64 s.1, .int .i64 s.2] 58) (.cells #[.int .i64 s.1, .int .i64 s.2] 58))
    have Xa := X.kept (below_new2 w2 (.cells #[.int .i64 s.1, .int .i64 s.2] 58) (.cells #[.int .i64 s.1, .int .i64 s.2] 58))
    have Nb := Box.new2 w2 (.cells #[.int .i64 s.1, .int .i64 s.2] 58) s.1 s.2 58
    have hb : Hide (w.heap.size + 2 ≤ ((w2.alloc (.cells #[.int .i64 s.1, .int .i64 s.2] 58)).alloc (.cells #[.int .i64 s.1, .int .i64 s.2] 58)).heap.size) := ⟨by simp; omega⟩
    have ⟨E0, E1, E2, E3⟩ := E
    have e0 := fun o => (E.kept (below_new _ o)).c0
    have e3 := fun o => (E.kept (below_new _ o)).c3
    go_wp2_with (first | (at_builtin; (refine wpApp rfl _ _ rfl (w.heap.size + 2) _ [] s rfl O2 ⟨w2.heap.size + 1, 0, none⟩ 1 rfl Nb.c0 Nb.c1 (by simp) hb.out ?_); intro v0 w3 hO hg; (have B2 := Own.grown (Below.refl (w.heap.size + 2) _) hb.out O2 hg); clear E0 E1 E2 E3 e0 e3 pn; (replace E := Ea.low B2 (by omega)); (replace X := box_low Xa B2 (by omega)); (replace Z := Nat.le_trans (show w.heap.size + 3 ≤ ((w2.alloc (.cells #[.int .i64 s.1, .int .i64 s.2] 58)).alloc (.cells #[.int .i64 s.1, .int .i64 s.2] 58)).heap.size by simp; omega) B2.size); (replace B := (below1 B (below_new2 _ (.cells #[.int .i64 s.1, .int .i64 s.2] 58) (.cells #[.int .i64 s.1, .int .i64 s.2] 58))).trans (B2.mono (by omega))); (replace O := hO); clear O2 Ea Xa hb Nb hg B2 hO))
    rw [rounds_succ]
    have R := R0.kept B
    obtain ⟨_, _, ⟨q0, q1, q2⟩, ⟨p1, n1, c1, q3, hn1, hr1⟩, _⟩ := R
    subst hn1
    have S1 := h2 _ w3 ⟨p1, _, c1, rfl, rfl, hr1⟩
    replace S1 := Hide.mk S1
    have ⟨E0, E1, E2, E3⟩ := E
    go_wp2_with fail
    clear E0 E1 E2 E3
    refine (S1.out).mono ?_
    clear S1 q0 q1 q2 q3 hr1
    rintro e w4 ⟨rfl, Bx⟩
    replace O := O.kept Bx
    replace E := E.kept Bx
    replace X := X.kept Bx
    replace Z := Nat.le_trans Z Bx.size
    replace B := below1 B Bx
    clear Bx
    rcases X2 with _ | t
    · have pn : pS none = spV 0 0 := rfl
      have y0 := fun o => (X.alloc o).c0
      have y1 := fun o => (X.alloc o).c1
      have y2 := fun o => (X.alloc o).f0
      have y3 := fun o => (X.alloc o).f1
      obtain ⟨d0, d1, g0, g1⟩ := X
      go_wp2
      refine bodyPost_ret (v := .tuple #[.agg #[.int .i64 0, .int .i64 0], .bool false]) (by simp [results, Try.results41, go_sem, *]) rfl ⟨rfl, ?_⟩
      exact below_set2 (below1 B (below_new _ _)) (by omega) _ _
    · have pn : pS (some t) = spV t.1 t.2 := rfl
      have O2 := O.kept (below_new2 w4 (.cells #[.int .i64 t.1, .int .i64 t.2] 58) (.cells #[.int .i64 t.1, .int .i64 t.2] 58))
      have Ea := E.kept (below_new2 w4 (.cells #[.int .i64 t.1, .int .i64 t.2] 58) (.cells #[.int .i64 t.1, .int .i64 t.2] 58))
      have Xa := X.kept (below_new2 w4 (.cells #[.int .i64 t.1, .int .i64 t.2] 58) (.cells #[.int .i64 t.1, .int .i64 t.2] 58))
      have Nb := Box.new2 w4 (.cells #[.int .i64 t.1, .int .i64 t.2] 58) t.1 t.2 58
      have hb : Hide (w.heap.size + 2 ≤ ((w4.alloc (.cells #[.int .i64 t.1, .int .i64 t.2] 58)).alloc (.cells #[.int .i64 t.1, .int .i64 t.2] 58)).heap.size) := ⟨by simp; omega⟩
      have ⟨E0, E1, E2, E3⟩ := E
      have e0 := fun o => (E.kept (below_new _ o)).c0
      have e3 := fun o => (E.kept (below_new _ o)).c3
      go_wp2_with (first | (at_builtin; (refine wpApp rfl _ _ rfl (w.heap.size + 2) _ [s] t rfl O2 ⟨w4.heap.size + 1, 0, none⟩ 1 rfl Nb.c0 Nb.c1 (by simp) hb.out ?_); intro v1 w5 hO hg; (have B2 := Own.grown (Below.refl (w.heap.size + 2) _) hb.out O2 hg); clear E0 E1 E2 E3 e0 e3 pn; (replace E := Ea.low B2 (by omega)); (replace X := box_low Xa B2 (by omega)); (replace Z := Nat.le_trans (show w.heap.size + 3 ≤ ((w4.alloc (.cells #[.int .i64 t.1, .int .i64 t.2] 58)).alloc (.cells #[.int .i64 t.1, .int .i64 t.2] 58)).heap.size by simp; omega) B2.size); (replace B := (below1 B (below_new2 _ (.cells #[.int .i64 t.1, .int .i64 t.2] 58) (.cells #[.int .i64 t.1, .int .i64 t.2] 58))).trans (B2.mono (by omega))); (replace O := hO); clear O2 Ea Xa hb Nb hg B2 hO))
      rw [rounds_succ]
      obtain ⟨g, cp, rfl, hg, t0, t1, t2, t3⟩ := O.two
      have o2 := SM.okS_of (hX2 t.1 t.2 rfl)
      rcases hk with rfl | rfl | rfl | rfl
      · have r0 := cell_regrown t0
        have r1 := cell_regrown t1
        have r2 := cell_regrown t2
        have r3 := cell_regrown t3
        have q1 : ∀ d os, Calls Try.prog 57 #[spV s.1 s.2, spV t.1 t.2] (grow (redrawn w5 d) os) fun e w'' => e = .returned (.tuple #[spV (SM.sel (SM.addB s.1 s.2 t.1 t.2) (s.1 + t.1)) (SM.sel (SM.addB s.1 s.2 t.1 t.2) (s.2 + t.2)), .bool (SM.addB s.1 s.2 t.1 t.2)]) ∧ ∃ p : Regrown, w'' = grow (redrawn w5 p.d) p.os := fun d os => Calls.regrown_of (SW.sSpanAdd_any s.1 s.2 t.1 t.2 _)
        have ⟨E0, E1, E2, E3⟩ := E
        go_wp2_with fail
        clear E0 E1 E2 E3
        refine QT.region 9 (by kernel_rfl) (by kernel_rfl) ?_
        simp only [List.take, List.drop]
        repeat (quiet_step (exact q1 _ _))
        refine wpQuiet_nil ?_
        rintro _ ⟨p, rfl⟩
        have Bx := below_regrown w5 p.d p.os
        generalize grow (redrawn w5 p.d) p.os = w6 at *
        clear q1 r0 r1 r2 r3
        replace E := E.kept Bx
        replace X := X.kept Bx
        replace Z := Nat.le_trans Z Bx.size
        replace B := below1 B Bx
        clear Bx
        obtain ⟨d0, d1, g0, g1⟩ := X
        go_wp2
        refine bodyPost_ret (v := .tuple #[.agg #[.int .i64 (SM.sel (SM.addB s.1 s.2 t.1 t.2) (s.1 + t.1)), .int .i64 (SM.sel (SM.addB s.1 s.2 t.1 t.2) (s.2 + t.2))], .bool (SM.addB s.1 s.2 t.1 t.2)]) (by simp [results, Try.results41, go_sem, *]) rfl ⟨by rw [show nodeS 5 0 0 [some s, some t] = opt (SM.addB s.1 s.2 t.1 t.2) (s.1 + t.1) (s.2 + t.2) from rfl, (pS_opt _ _ _).1, (pS_opt _ _ _).2], ?_⟩
        exact below_set2 B (by omega) _ _
      · have r0 := cell_regrown t0
        have r1 := cell_regrown t1
        have r2 := cell_regrown t2
        have r3 := cell_regrown t3
        have q1 : ∀ d os, Calls Try.prog 58 #[spV s.1 s.2, spV t.1 t.2] (grow (redrawn w5 d) os) fun e w'' => e = .returned (.tuple #[spV (SM.sel (SM.addB s.1 s.2 (-t.2) (-t.1)) (s.1 + -t.2)) (SM.sel (SM.addB s.1 s.2 (-t.2) (-t.1)) (s.2 + -t.1)), .bool (SM.addB s.1 s.2 (-t.2) (-t.1))]) ∧ ∃ p : Regrown, w'' = grow (redrawn w5 p.d) p.os := fun d os => Calls.regrown_of (SW.sSpanSub_any s.1 s.2 t.1 t.2 _ (by omega) (by omega) (by omega) (by omega))
        have ⟨E0, E1, E2, E3⟩ := E
        go_wp2_with fail
        clear E0 E1 E2 E3
        refine QT.region 9 (by kernel_rfl) (by kernel_rfl) ?_
        simp only [List.take, List.drop]
        repeat (quiet_step (exact q1 _ _))
        refine wpQuiet_nil ?_
        rintro _ ⟨p, rfl⟩
        have Bx := below_regrown w5 p.d p.os
        generalize grow (redrawn w5 p.d) p.os = w6 at *
        clear q1 r0 r1 r2 r3
        replace E := E.kept Bx
        replace X := X.kept Bx
        replace Z := Nat.le_trans Z Bx.size
        replace B := below1 B Bx
        clear Bx
        obtain ⟨d0, d1, g0, g1⟩ := X
        go_wp2
        refine bodyPost_ret (v := .tuple #[.agg #[.int .i64 (SM.sel (SM.addB s.1 s.2 (-t.2) (-t.1)) (s.1 + -t.2)), .int .i64 (SM.sel (SM.addB s.1 s.2 (-t.2) (-t.1)) (s.2 + -t.1))], .bool (SM.addB s.1 s.2 (-t.2) (-t.1))]) (by simp [results, Try.results41, go_sem, *]) rfl ⟨by rw [show nodeS 6 0 0 [some s, some t] = opt (SM.addB s.1 s.2 (-t.2) (-t.1)) (s.1 + -t.2) (s.2 + -t.1) from rfl, (pS_opt _ _ _).1, (pS_opt _ _ _).2], ?_⟩
        exact below_set2 B (by omega) _ _
      · have r0 := cell_regrown t0
        have r1 := cell_regrown t1
        have r2 := cell_regrown t2
        have r3 := cell_regrown t3
        have q1 : ∀ d os, Calls Try.prog 59 #[spV s.1 s.2, spV t.1 t.2] (grow (redrawn w5 d) os) fun e w'' => e = .returned (.tuple #[spV (SM.sel (SM.mulB s.1 s.2 t.1 t.2) (SM.mulLo s.1 s.2 t.1 t.2)) (SM.sel (SM.mulB s.1 s.2 t.1 t.2) (SM.mulHi s.1 s.2 t.1 t.2)), .bool (SM.mulB s.1 s.2 t.1 t.2)]) ∧ ∃ p : Regrown, w'' = grow (redrawn w5 p.d) p.os := fun d os => Calls.regrown_of (SW.sSpanMul_any s.1 s.2 t.1 t.2 _)
        have ⟨E0, E1, E2, E3⟩ := E
        go_wp2_with fail
        clear E0 E1 E2 E3
        refine QT.region 9 (by kernel_rfl) (by kernel_rfl) ?_
        simp only [List.take, List.drop]
        repeat (quiet_step (exact q1 _ _))
        refine wpQuiet_nil ?_
        rintro _ ⟨p, rfl⟩
        have Bx := below_regrown w5 p.d p.os
        generalize grow (redrawn w5 p.d) p.os = w6 at *
        clear q1 r0 r1 r2 r3
        replace E := E.kept Bx
        replace X := X.kept Bx
        replace Z := Nat.le_trans Z Bx.size
        replace B := below1 B Bx
        clear Bx
        obtain ⟨d0, d1, g0, g1⟩ := X
        go_wp2
        refine bodyPost_ret (v := .tuple #[.agg #[.int .i64 (SM.sel (SM.mulB s.1 s.2 t.1 t.2) (SM.mulLo s.1 s.2 t.1 t.2)), .int .i64 (SM.sel (SM.mulB s.1 s.2 t.1 t.2) (SM.mulHi s.1 s.2 t.1 t.2))], .bool (SM.mulB s.1 s.2 t.1 t.2)]) (by simp [results, Try.results41, go_sem, *]) rfl ⟨by rw [show nodeS 7 0 0 [some s, some t] = opt (SM.mulB s.1 s.2 t.1 t.2) (SM.mulLo s.1 s.2 t.1 t.2) (SM.mulHi s.1 s.2 t.1 t.2) from rfl, (pS_opt _ _ _).1, (pS_opt _ _ _).2], ?_⟩
        exact below_set2 B (by omega) _ _
      · have r0 := cell_regrown t0
        have r1 := cell_regrown t1
        have r2 := cell_regrown t2
        have r3 := cell_regrown t3
        have q1 : ∀ d os, Calls Try.prog 60 #[spV s.1 s.2, spV t.1 t.2] (grow (redrawn w5 d) os) fun e w'' => e = .returned (.tuple #[spV (SM.sel (SM.divB s.1 s.2 t.1 t.2) (SM.divLo s.1 s.2 t.1 t.2)) (SM.sel (SM.divB s.1 s.2 t.1 t.2) (SM.divHi s.1 s.2 t.1 t.2)), .bool (SM.divB s.1 s.2 t.1 t.2)]) ∧ ∃ p : Regrown, w'' = grow (redrawn w5 p.d) p.os := fun d os => Calls.regrown_of (SW.sSpanDiv_any s.1 s.2 t.1 t.2 _)
        have ⟨E0, E1, E2, E3⟩ := E
        go_wp2_with fail
        clear E0 E1 E2 E3
        refine QT.region 9 (by kernel_rfl) (by kernel_rfl) ?_
        simp only [List.take, List.drop]
        repeat (quiet_step (exact q1 _ _))
        refine wpQuiet_nil ?_
        rintro _ ⟨p, rfl⟩
        have Bx := below_regrown w5 p.d p.os
        generalize grow (redrawn w5 p.d) p.os = w6 at *
        clear q1 r0 r1 r2 r3
        replace E := E.kept Bx
        replace X := X.kept Bx
        replace Z := Nat.le_trans Z Bx.size
        replace B := below1 B Bx
        clear Bx
        obtain ⟨d0, d1, g0, g1⟩ := X
        go_wp2
        refine bodyPost_ret (v := .tuple #[.agg #[.int .i64 (SM.sel (SM.divB s.1 s.2 t.1 t.2) (SM.divLo s.1 s.2 t.1 t.2)), .int .i64 (SM.sel (SM.divB s.1 s.2 t.1 t.2) (SM.divHi s.1 s.2 t.1 t.2))], .bool (SM.divB s.1 s.2 t.1 t.2)]) (by simp [results, Try.results41, go_sem, *]) rfl ⟨by rw [show nodeS 8 0 0 [some s, some t] = opt (SM.divB s.1 s.2 t.1 t.2) (SM.divLo s.1 s.2 t.1 t.2) (SM.divHi s.1 s.2 t.1 t.2) from rfl, (pS_opt _ _ _).1, (pS_opt _ _ _).2], ?_⟩
        exact below_set2 B (by omega) _ _
end ER
end Go.Proofs.Ytlkompbigpbefab
