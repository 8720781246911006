/-
  What the specification's l31Span returns of whatever is in form; ExprSpan.
-/
import Derived.Test.YtlkompbigpbefabExprSpan4
import Derived.Test.YtlkompbigpbefabExprSpan2
import Derived.Test.YtlkompbigpbefabExprSize5
namespace Go.Proofs.Ytlkompbigpbefab
open Go.RowKit Go.Sort
set_option linter.unusedVariables false
set_option maxRecDepth 8000
namespace ER
open EM SK
/-- What is reckoned of something that may not be ok. -/
def spanE (k a b : Int) (s : F) : P := if okB k a b s = true then nodeS k a b s.evS else none
def PN (s : F) : Prop := ∀ k a b : Int, formB k a b s.len = true → s.okF = true → KS1 k a b s (nodeS k a b s.evS)
def AllN : F → Prop
  | .nil => True
  | .cons _ _ _ t r => PN t ∧ AllN r
theorem span_step (s : F) (h : AllN s) : PN s := by
  intro k a b hf ho v w hk
  obtain ⟨p, n, cap, rfl, hn, hr⟩ := hk
  subst hn
  rcases form_kinds hf with ⟨rfl, hn, ha, hb⟩ | ⟨rfl, hn, ha, rfl⟩ | ⟨hk, hn, rfl, rfl⟩ | ⟨hk, hn, rfl, rfl⟩
  · obtain rfl := len0 hn
    exact span_num a b p cap w
  · obtain rfl := len0 hn
    exact span_sine a p cap ha.1 ha.2 w
  · obtain ⟨k1, a1, b1, t1, rfl⟩ := len1 hn
    rcases hr with hr | ⟨x, o, rfl, R⟩
    · omega
    · simp only [F.okF, Bool.and_eq_true] at ho
      exact span_of1 k1 a1 b1 t1 k x o cap hk _ (nodeS_ok (F.evS_ok t1)) (h.1 k1 a1 b1 ho.1 ho.2.1) w R
  · obtain ⟨k1, a1, b1, t1, k2, a2, b2, t2, rfl⟩ := len2 hn
    rcases hr with hr | ⟨x, o, rfl, R⟩
    · omega
    · simp only [F.okF, Bool.and_eq_true] at ho
      exact span_of2 k1 a1 b1 t1 k2 a2 b2 t2 k x o cap hk _ _ (nodeS_ok (F.evS_ok t1)) (nodeS_ok (F.evS_ok t2)) (h.1 k1 a1 b1 ho.1 ho.2.1) (h.2.1 k2 a2 b2 ho.2.2.1 ho.2.2.2.1) w R
theorem span_all : ∀ s : F, PN s ∧ AllN s
  | .nil => ⟨span_step .nil trivial, trivial⟩
  | .cons k a b t r => by
    have g : AllN (.cons k a b t r) := ⟨(span_all t).1, (span_all r).2⟩
    exact ⟨span_step _ g, g⟩
set_option maxHeartbeats 4000000 in
theorem exprSpan_no (k a b : Int) (s : F) (v : Value) (w : World) (h : Kids w s v) (hb : okB k a b s = false) :
    Calls Try.prog 27 #[exV k a b v] w fun e w' => e = .returned (.tuple #[spV 0 0, .bool false]) ∧ Below w.heap.size w w' := by
  obtain ⟨p, _, cap, rfl, rfl, hr⟩ := h
  have h : Hide (Kids w s (.slice p s.len cap)) := ⟨⟨p, _, cap, rfl, rfl, hr⟩⟩
  clear hr
  have K0 := sExprOk_any k a b s
  rw [hb] at K0
  have E := (Ex.new w k a b (.slice p s.len cap) 25).kept (below_new _ (.cells #[.int .i64 0, .int .i64 0] 58))
  have X := Box.new2 w (.cells #[.int .i64 k, .int .i64 a, .int .i64 b, .slice p s.len cap] 25) 0 0 58
  have B := below_new2 w (.cells #[.int .i64 k, .int .i64 a, .int .i64 b, .slice p s.len cap] 25) (.cells #[.int .i64 0, .int .i64 0] 58)
  go_enter Try.func27, Try.ntmps27
  have ⟨E0, E1, E2, E3⟩ := E
  replace hb := Hide.mk hb
  replace K0 := Hide.mk K0
  go_wp2_with fail
  clear E0 E1 E2 E3
  generalize ((w.alloc (.cells #[.int .i64 k, .int .i64 a, .int .i64 b, .slice p s.len cap] 25)).alloc (.cells #[.int .i64 0, .int .i64 0] 58)) = w1 at *
  refine (K0.out _ w1 (h.out.kept B)).mono ?_
  clear K0
  rintro e w2 ⟨rfl, Bx⟩
  replace E := E.kept Bx
  replace X := X.kept Bx
  replace B := below1 B Bx
  clear Bx
  obtain ⟨d0, d1, g0, g1⟩ := X
  go_wp2
  refine bodyPost_ret (v := .tuple #[.agg #[.int .i64 0, .int .i64 0], .bool false]) (by simp [results, Try.results27, go_sem, *]) rfl ⟨rfl, ?_⟩
  exact below_set2 B (by omega) _ _
set_option maxHeartbeats 4000000 in
theorem exprSpan_yes (k a b : Int) (s : F) (v : Value) (w : World) (h : Kids w s v) (hb : okB k a b s = true) (Y : P) (K : KS1 k a b s Y) :
    Calls Try.prog 27 #[exV k a b v] w fun e w' => e = .returned (.tuple #[pS Y, .bool Y.isSome]) ∧ Below w.heap.size w w' := by
  replace K := Hide.mk K
  obtain ⟨p, _, cap, rfl, rfl, hr⟩ := h
  have h : Hide (Kids w s (.slice p s.len cap)) := ⟨⟨p, _, cap, rfl, rfl, hr⟩⟩
  clear hr
  have K0 := sExprOk_any k a b s
  rw [hb] at K0
  have E := (Ex.new w k a b (.slice p s.len cap) 25).kept (below_new _ (.cells #[.int .i64 0, .int .i64 0] 58))
  have X := Box.new2 w (.cells #[.int .i64 k, .int .i64 a, .int .i64 b, .slice p s.len cap] 25) 0 0 58
  have B := below_new2 w (.cells #[.int .i64 k, .int .i64 a, .int .i64 b, .slice p s.len cap] 25) (.cells #[.int .i64 0, .int .i64 0] 58)
  go_enter Try.func27, Try.ntmps27
  have ⟨E0, E1, E2, E3⟩ := E
  replace hb := Hide.mk hb
  replace K0 := Hide.mk K0
  go_wp2_with fail
  clear E0 E1 E2 E3
  generalize ((w.alloc (.cells #[.int .i64 k, .int .i64 a, .int .i64 b, .slice p s.len cap] 25)).alloc (.cells #[.int .i64 0, .int .i64 0] 58)) = w1 at *
  refine (K0.out _ w1 (h.out.kept B)).mono ?_
  clear K0
  rintro e w2 ⟨rfl, Bx⟩
  replace E := E.kept Bx
  replace X := X.kept Bx
  replace B := below1 B Bx
  clear Bx
  have ⟨E0, E1, E2, E3⟩ := E
  go_wp2_with fail
  clear E0 E1 E2 E3
  refine (K.out _ w2 (h.out.kept B)).mono ?_
  clear K
  rintro e w3 ⟨rfl, Bx⟩
  replace X := X.kept Bx
  replace B := below1 B Bx
  clear Bx
  rcases Y with _ | y
  · have pn : pS none = spV 0 0 := rfl
    obtain ⟨d0, d1, g0, g1⟩ := X
    go_wp2
    refine bodyPost_ret (v := .tuple #[.agg #[.int .i64 0, .int .i64 0], .bool false]) (by simp [results, Try.results27, go_sem, *]) rfl ⟨rfl, ?_⟩
    exact below_set2 B (by omega) _ _
  · have pn : pS (some y) = spV y.1 y.2 := rfl
    obtain ⟨d0, d1, g0, g1⟩ := X
    go_wp2
    refine bodyPost_ret (v := .tuple #[.agg #[.int .i64 y.1, .int .i64 y.2], .bool true]) (by simp [results, Try.results27, go_sem, *]) rfl ⟨rfl, ?_⟩
    exact below_set2 B (by omega) _ _
theorem sExprSpan_any (k a b : Int) (s : F) (v : Value) (w : World) (h : Kids w s v) :
    Calls Try.prog 27 #[exV k a b v] w fun e w' => e = .returned (.tuple #[pS (spanE k a b s), .bool (spanE k a b s).isSome]) ∧ Below w.heap.size w w' := by
  cases hb : okB k a b s
  · rw [show spanE k a b s = none by unfold spanE; rw [hb]; rfl]
    exact exprSpan_no k a b s v w h hb
  · rw [show spanE k a b s = nodeS k a b s.evS by unfold spanE; rw [if_pos hb]]
    obtain ⟨b1, b2, b3⟩ := okB_of hb
    exact exprSpan_yes k a b s v w h hb _ ((span_all s).1 k a b b1 b2)
end ER
end Go.Proofs.Ytlkompbigpbefab
