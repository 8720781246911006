/-
  What the specification's l31Span returns: of something with one of Kids.
-/
import Derived.Test.YtlkompbigpbefabExprSpan1
import Derived.Test.YtlkompbigpbefabSpanWalks4
import Derived.Test.YtlkompbigpbefabSpanWalks3
import Derived.Test.YtlkompbigpbefabSineWalks2
import Derived.Test.YtlkompbigpbefabKeptStep
namespace Go.Proofs.Ytlkompbigpbefab
open Go.RowKit Go.Sort Go.Joins
set_option linter.unusedVariables false
set_option maxRecDepth 8000
namespace ER
open EM SK
/-- A Kid's span is told so. -/
def KS1 (k1 a1 b1 : Int) (t : F) (X : P) : Prop := ∀ (v : Value) (w : World), Kids w t v → Calls Try.prog 41 #[exV k1 a1 b1 v] w fun e w' => e = .returned (.tuple #[pS X, .bool X.isSome]) ∧ Below w.heap.size w w'
set_option maxHeartbeats 4000000 in
theorem span_of1 (k1 a1 b1 : Int) (t1 : F) (k : Int) (x o cap : Nat) (hk : k = 2 ∨ k = 3) (X1 : P) (hX : okP X1) (h1 : KS1 k1 a1 b1 t1 X1) (w : World) (R0 : Row w (F.cons k1 a1 b1 t1 F.nil) x o) :
    Calls Try.prog 41 #[exV k 0 0 (.slice (some ⟨x, o, none⟩) 1 cap)] w fun e w' => e = .returned (.tuple #[pS (nodeS k 0 0 [X1]), .bool (nodeS k 0 0 [X1]).isSome]) ∧ Below w.heap.size w w' := by
  have E := (Ex.new w k 0 0 (.slice (some ⟨x, o, none⟩) 1 cap) 25).kept (below_new2 _ (.cells #[.int .i64 0, .int .i64 0] 58) (.cells #[] 58))
  have X := (Box.new2 w (.cells #[.int .i64 k, .int .i64 0, .int .i64 0, .slice (some ⟨x, o, none⟩) 1 cap] 25) 0 0 58).alloc (.cells #[] 58)
  have B := below1 (below_new w (.cells #[.int .i64 k, .int .i64 0, .int .i64 0, .slice (some ⟨x, o, none⟩) 1 cap] 25)) (below_new2 _ (.cells #[.int .i64 0, .int .i64 0] 58) (.cells #[] 58))
  have O : Own (((w.alloc (.cells #[.int .i64 k, .int .i64 0, .int .i64 0, .slice (some ⟨x, o, none⟩) 1 cap] 25)).alloc (.cells #[.int .i64 0, .int .i64 0] 58)).alloc (.cells #[] 58)) (w.heap.size + 2) (.slice (some ⟨w.heap.size + 1 + 1, 0, none⟩) 0 0) [] := ⟨rfl, .inr ⟨_, 0, #[], rfl, by omega, heap_new3 _ _ _ _, Nat.le_refl _, Nat.zero_le _, rfl, rfl⟩⟩
  have Z : w.heap.size + 3 ≤ (((w.alloc (.cells #[.int .i64 k, .int .i64 0, .int .i64 0, .slice (some ⟨x, o, none⟩) 1 cap] 25)).alloc (.cells #[.int .i64 0, .int .i64 0] 58)).alloc (.cells #[] 58)).heap.size := by simp
  go_enter Try.func41, Try.ntmps41
  go_wp2_with fail
  generalize (((w.alloc (.cells #[.int .i64 k, .int .i64 0, .int .i64 0, .slice (some ⟨x, o, none⟩) 1 cap] 25)).alloc (.cells #[.int .i64 0, .int .i64 0] 58)).alloc (.cells #[] 58)) = w1 at *
  refine wp_loop_rounds 2 ?_
  rw [rounds_succ]
  have R := R0.kept B
  obtain ⟨⟨q0, q1, q2⟩, ⟨p1, n1, c1, q3, hn1, hr1⟩, _⟩ := R
  subst hn1
  have S1 := h1 _ w1 ⟨p1, _, c1, rfl, rfl, hr1⟩
  replace S1 := Hide.mk S1
  have ⟨E0, E1, E2, E3⟩ := E
  go_wp2_with fail
  clear E0 E1 E2 E3
  refine (S1.out).mono ?_
  clear S1 q0 q1 q2 q3 hr1
  rintro e w2 ⟨rfl, Bx⟩
  replace O := O.kept Bx
  replace E := E.kept Bx
  replace X := X.kept Bx
  replace Z := Nat.le_trans Z Bx.size
  replace B := below1 B Bx
  clear Bx
  rcases X1 with _ | s
  · have pn : pS none = spV 0 0 := rfl
    have y0 := fun o => (X.alloc o).c0
    have y1 := fun o => (X.alloc o).c1
    have y2 := fun o => (X.alloc o).f0
    have y3 := fun o => (X.alloc o).f1
    obtain ⟨d0, d1, g0, g1⟩ := X
    go_wp2
    refine bodyPost_ret (v := .tuple #[.agg #[.int .i64 0, .int .i64 0], .bool false]) (by simp [results, Try.results41, go_sem, *]) rfl ⟨rfl, ?_⟩
    exact below_set2 (below1 B (below_new _ _)) (by omega) _ _
  · have pn : pS (some s) = spV s.1 s.2 := rfl
    have O2 := O.kept (below_new2 w2 (.cells #[.int .i64 s.1, .int .i64 s.2] 58) (.cells #[.int .i64 s.1, .int .i64 s.2] 58))
    have Ea := E.kept (below_new2 w2 (.cells #[.int .i64 s.1, .int .i64 s.2] 58) (.cells #[.int .i64 s.1, .int .i64 s.2] 58))
    have Xa := X.kept (below_new2 w2 (.cells #[.int .i64 s.1, .int .i64 s.2] 58) (.cells #[.int .i64 s.1, .int .i64 s.2] 58))
    have Nb := Box.new2 w2 (.cells #[.int .i64 s.1, .int .i64 s.2] 58) s.1 s.2 58
    have hb : Hide (w.heap.size + 2 ≤ ((w2.alloc (.cells #[.int .i64 s.1, .int .i64 s.2] 58)).alloc (.cells #[.int .i64 s.1, .int .i64 s.2] 58)).heap.size) := ⟨by simp; omega⟩
    have ⟨E0, E1, E2, E3⟩ := E
    have e0 := fun o => (E.kept (below_new _ o)).c0
    have e3 := fun o => (E.kept (below_new _ o)).c3
    go_wp2_with (first | (at_builtin; (refine wpApp rfl _ _ rfl (w.heap.size + 2) _ [] s rfl O2 ⟨w2.heap.size + 1, 0, none⟩ 1 rfl Nb.c0 Nb.c1 (by simp) hb.out ?_); intro v0 w3 hO hg; (have B2 := Own.grown (Below.refl (w.heap.size + 2) _) hb.out O2 hg); clear E0 E1 E2 E3 e0 e3 pn; (replace E := Ea.low B2 (by omega)); (replace X := box_low Xa B2 (by omega)); (replace Z := Nat.le_trans (show w.heap.size + 3 ≤ ((w2.alloc (.cells #[.int .i64 s.1, .int .i64 s.2] 58)).alloc (.cells #[.int .i64 s.1, .int .i64 s.2] 58)).heap.size by simp; omega) B2.size); (replace B := (below1 B (below_new2 _ (.cells #[.int .i64 s.1, .int .i64 s.2] 58) (.cells #[.int .i64 s.1, .int .i64 s.2] 58))).trans (B2.mono (by omega))); (replace O := hO); clear O2 Ea Xa hb Nb hg B2 hO))
    rw [rounds_succ]
    obtain ⟨g, cp, rfl, hg, t0, t1⟩ := O.one
    have o1 := hX s.1 s.2 rfl
    rcases hk with rfl | rfl
    · have ⟨E0, E1, E2, E3⟩ := E
      go_wp2_with fail
      clear E0 E1 E2 E3
      refine (SW.sSpanNeg_any s.1 s.2 _).mono ?_
      rintro e w4 ⟨rfl, Bx⟩
      rw [o1]
      replace E := E.kept Bx
      replace X := X.kept Bx
      replace Z := Nat.le_trans Z Bx.size
      replace B := below1 B Bx
      clear Bx
      obtain ⟨d0, d1, g0, g1⟩ := X
      go_wp2
      refine bodyPost_ret (v := .tuple #[.agg #[.int .i64 (SM.sel true (-s.2)), .int .i64 (SM.sel true (-s.1))], .bool true]) (by simp [results, Try.results41, go_sem, *]) rfl ⟨rfl, ?_⟩
      exact below_set2 B (by omega) _ _
    · have ⟨E0, E1, E2, E3⟩ := E
      go_wp2_with fail
      clear E0 E1 E2 E3
      refine (SW.sSpanRoot_any s.1 s.2 _).mono ?_
      rintro e w4 ⟨rfl, Bx⟩
      replace E := E.kept Bx
      replace X := X.kept Bx
      replace Z := Nat.le_trans Z Bx.size
      replace B := below1 B Bx
      clear Bx
      obtain ⟨d0, d1, g0, g1⟩ := X
      go_wp2
      refine bodyPost_ret (v := .tuple #[.agg #[.int .i64 (SM.sel (SM.rootB s.1 s.2) (SM.rtLo s.1)), .int .i64 (SM.sel (SM.rootB s.1 s.2) (SM.rtHi s.2))], .bool (SM.rootB s.1 s.2)]) (by simp [results, Try.results41, go_sem, *]) rfl ⟨by rw [show nodeS 3 0 0 [some s] = opt (SM.rootB s.1 s.2) (SM.rtLo s.1) (SM.rtHi s.2) from rfl, (pS_opt _ _ _).1, (pS_opt _ _ _).2], ?_⟩
      exact below_set2 B (by omega) _ _
end ER
end Go.Proofs.Ytlkompbigpbefab
