/-
  What the specification's l31Span returns: of a number, of a sine.
-/
import Derived.Test.YtlkompbigpbefabExprSpan1
import Derived.Test.YtlkompbigpbefabSpanWalks4
import Derived.Test.YtlkompbigpbefabSpanWalks3
import Derived.Test.YtlkompbigpbefabSineWalks2
import Derived.Test.YtlkompbigpbefabKeptStep
namespace Go.Proofs.Ytlkompbigpbefab
open Go.RowKit Go.Sort Go.Joins
set_option linter.unusedVariables false
set_option maxRecDepth 8000
namespace ER
open EM SK
set_option maxHeartbeats 4000000 in
theorem span_num (a b : Int) (p : Option Addr) (cap : Nat) (w : World) :
    Calls Try.prog 41 #[exV 1 a b (.slice p 0 cap)] w fun e w' => e = .returned (.tuple #[pS (leafS 1 a b), .bool (leafS 1 a b).isSome]) ∧ Below w.heap.size w w' := by
  rw [show leafS 1 a b = opt (SM.ofB a b) (SM.ofLo a b) (SM.ofHi a b) from rfl, (pS_opt _ _ _).1, (pS_opt _ _ _).2]
  have E := (Ex.new w 1 a b (.slice p 0 cap) 25).kept (below_new2 _ (.cells #[.int .i64 0, .int .i64 0] 58) (.cells #[] 58))
  have X := (Box.new2 w (.cells #[.int .i64 1, .int .i64 a, .int .i64 b, .slice p 0 cap] 25) 0 0 58).alloc (.cells #[] 58)
  have B := below1 (below_new w (.cells #[.int .i64 1, .int .i64 a, .int .i64 b, .slice p 0 cap] 25)) (below_new2 _ (.cells #[.int .i64 0, .int .i64 0] 58) (.cells #[] 58))
  have O : Own (((w.alloc (.cells #[.int .i64 1, .int .i64 a, .int .i64 b, .slice p 0 cap] 25)).alloc (.cells #[.int .i64 0, .int .i64 0] 58)).alloc (.cells #[] 58)) (w.heap.size + 2) (.slice (some ⟨w.heap.size + 1 + 1, 0, none⟩) 0 0) [] := ⟨rfl, .inr ⟨_, 0, #[], rfl, by omega, heap_new3 _ _ _ _, Nat.le_refl _, Nat.zero_le _, rfl, rfl⟩⟩
  have Z : w.heap.size + 3 ≤ (((w.alloc (.cells #[.int .i64 1, .int .i64 a, .int .i64 b, .slice p 0 cap] 25)).alloc (.cells #[.int .i64 0, .int .i64 0] 58)).alloc (.cells #[] 58)).heap.size := by simp
  go_enter Try.func41, Try.ntmps41
  go_wp2_with fail
  generalize (((w.alloc (.cells #[.int .i64 1, .int .i64 a, .int .i64 b, .slice p 0 cap] 25)).alloc (.cells #[.int .i64 0, .int .i64 0] 58)).alloc (.cells #[] 58)) = w1 at *
  refine wp_loop_rounds 1 ?_
  rw [rounds_succ]
  have ⟨E0, E1, E2, E3⟩ := E
  go_wp2_with fail
  clear E0 E1 E2 E3
  refine (SW.sSpanOf_any a b _).mono ?_
  rintro e w2 ⟨rfl, Bx⟩
  replace E := E.kept Bx
  replace X := X.kept Bx
  replace Z := Nat.le_trans Z Bx.size
  replace B := below1 B Bx
  clear Bx
  obtain ⟨d0, d1, g0, g1⟩ := X
  go_wp2
  refine bodyPost_ret (v := .tuple #[.agg #[.int .i64 (SM.sel (SM.ofB a b) (SM.ofLo a b)), .int .i64 (SM.sel (SM.ofB a b) (SM.ofHi a b))], .bool (SM.ofB a b)]) (by simp [results, Try.results41, go_sem, *]) rfl ⟨rfl, ?_⟩
  exact below_set2 B (by omega) _ _
set_option maxHeartbeats 4000000 in
theorem span_sine (a : Int) (p : Option Addr) (cap : Nat) (h1 : -129600000 ≤ a) (h2 : a ≤ 129600000) (w : World) :
    Calls Try.prog 41 #[exV 4 a 0 (.slice p 0 cap)] w fun e w' => e = .returned (.tuple #[pS (leafS 4 a 0), .bool (leafS 4 a 0).isSome]) ∧ Below w.heap.size w w' := by
  have H : SK.okA a = true := SK.okA_mk (by omega) (by omega)
  have K := SK.sSineOf_any a
  rw [H] at K
  have E := (Ex.new w 4 a 0 (.slice p 0 cap) 25).kept (below_new2 _ (.cells #[.int .i64 0, .int .i64 0] 58) (.cells #[] 58))
  have X := (Box.new2 w (.cells #[.int .i64 4, .int .i64 a, .int .i64 0, .slice p 0 cap] 25) 0 0 58).alloc (.cells #[] 58)
  have B := below1 (below_new w (.cells #[.int .i64 4, .int .i64 a, .int .i64 0, .slice p 0 cap] 25)) (below_new2 _ (.cells #[.int .i64 0, .int .i64 0] 58) (.cells #[] 58))
  have O : Own (((w.alloc (.cells #[.int .i64 4, .int .i64 a, .int .i64 0, .slice p 0 cap] 25)).alloc (.cells #[.int .i64 0, .int .i64 0] 58)).alloc (.cells #[] 58)) (w.heap.size + 2) (.slice (some ⟨w.heap.size + 1 + 1, 0, none⟩) 0 0) [] := ⟨rfl, .inr ⟨_, 0, #[], rfl, by omega, heap_new3 _ _ _ _, Nat.le_refl _, Nat.zero_le _, rfl, rfl⟩⟩
  have Z : w.heap.size + 3 ≤ (((w.alloc (.cells #[.int .i64 4, .int .i64 a, .int .i64 0, .slice p 0 cap] 25)).alloc (.cells #[.int .i64 0, .int .i64 0] 58)).alloc (.cells #[] 58)).heap.size := by simp
  go_enter Try.func41, Try.ntmps41
  go_wp2_with fail
  generalize (((w.alloc (.cells #[.int .i64 4, .int .i64 a, .int .i64 0, .slice p 0 cap] 25)).alloc (.cells #[.int .i64 0, .int .i64 0] 58)).alloc (.cells #[] 58)) = w1 at *
  refine wp_loop_rounds 1 ?_
  rw [rounds_succ]
  have ⟨E0, E1, E2, E3⟩ := E
  go_wp2_with fail
  clear E0 E1 E2 E3
  refine (K _).mono ?_
  clear K H
  rintro e w2 ⟨rfl, Bx⟩
  replace E := E.kept Bx
  replace X := X.kept Bx
  replace Z := Nat.le_trans Z Bx.size
  replace B := below1 B Bx
  clear Bx
  obtain ⟨d0, d1, g0, g1⟩ := X
  go_wp2
  refine bodyPost_ret (v := .tuple #[.agg #[.int .i64 (SM.sel true (SI.siL (2 * a))), .int .i64 (SM.sel true (SI.siH (2 * a)))], .bool true]) (by simp [results, Try.results41, go_sem, *]) rfl ⟨rfl, ?_⟩
  exact below_set2 B (by omega) _ _
end ER
end Go.Proofs.Ytlkompbigpbefab
