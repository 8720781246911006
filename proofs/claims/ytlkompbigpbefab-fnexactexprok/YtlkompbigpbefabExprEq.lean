/-
  Two trees that are the same are told so: what the laws' eqExpr and eqExprS return.
-/
import Derived.Test.YtlkompbigpbefabExprCopy
import Derived.Test.YtlkompbigpbefabKeptStep
namespace Go.Proofs.Ytlkompbigpbefab
open Go.RowKit Go.Sort Go.Joins
set_option linter.unusedVariables false
set_option maxRecDepth 8000
namespace ER
open EM SK
def PE (t : F) : Prop := ∀ (v v' : Value) (w : World), Kids w t v → Kids w t v' → t.cnt ≤ 1048576 →
    Calls Try.prog 25 #[v, v'] w fun e w' => e = .returned (.bool true) ∧ Below w.heap.size w w'
def AllE : F → Prop
  | .nil => True
  | .cons _ _ _ t r => PE t ∧ AllE r
set_option maxHeartbeats 4000000 in
theorem eq_one (k a c : Int) (t : F) (v v' : Value) (w : World) (h : PE t) (hk : Kids w t v) (hk' : Kids w t v') (hc : t.cnt ≤ 1048576) :
    Calls Try.prog 15 #[exV k a c v, exV k a c v'] w fun e w' => e = .returned (.bool true) ∧ Below w.heap.size w w' := by
  obtain ⟨p, _, cap, rfl, rfl, hr⟩ := hk
  obtain ⟨p', _, cap', rfl, rfl, hr'⟩ := hk'
  have hk : Hide (Kids w t (.slice p t.len cap)) := ⟨p, _, cap, rfl, rfl, hr⟩
  have hk' : Hide (Kids w t (.slice p' t.len cap')) := ⟨p', _, cap', rfl, rfl, hr'⟩
  replace hc := Hide.mk hc
  clear hr hr'
  have E := (Ex.new w k a c (.slice p t.len cap) 25).kept (below_new _ (.cells #[.int .i64 k, .int .i64 a, .int .i64 c, .slice p' t.len cap'] 25))
  have X := Ex.new (w.alloc (.cells #[.int .i64 k, .int .i64 a, .int .i64 c, .slice p t.len cap] 25)) k a c (.slice p' t.len cap') 25
  rw [size_new] at X
  have B := below_new2 w (.cells #[.int .i64 k, .int .i64 a, .int .i64 c, .slice p t.len cap] 25) (.cells #[.int .i64 k, .int .i64 a, .int .i64 c, .slice p' t.len cap'] 25)
  go_enter Try.func15, Try.ntmps15
  have ⟨E0, E1, E2, E3⟩ := E
  have ⟨X0, X1, X2, X3⟩ := X
  go_wp2_with fail
  clear E0 E1 E2 E3 X0 X1 X2 X3 E X
  generalize ((w.alloc (.cells #[.int .i64 k, .int .i64 a, .int .i64 c, .slice p t.len cap] 25)).alloc (.cells #[.int .i64 k, .int .i64 a, .int .i64 c, .slice p' t.len cap'] 25)) = w1 at *
  refine (h _ _ w1 (hk.out.kept B) (hk'.out.kept B) hc.out).mono ?_
  rintro e w2 ⟨rfl, Bx⟩
  replace B := below1 B Bx
  clear Bx
  go_wp2
  go_ret
  exact ⟨rfl, B⟩
set_option maxHeartbeats 4000000 in
theorem eq_step (t : F) (h : AllE t) : PE t := by
  intro v v' w hk hk' hc
  obtain ⟨p, n, cap, rfl, hn, hr⟩ := hk
  obtain ⟨p', n', cap', rfl, hn', hr'⟩ := hk'
  have d0 := deep_nn t
  have c0 := cnt_deep t
  have n0 : n ≤ 1048576 := by omega
  obtain rfl : n = n' := by omega
  rcases hr with hr | ⟨b, o, rfl, R⟩
  · have hz : n = 0 := by omega
    subst hz
    clear hn hn' d0 c0 hr hr' hc h n0
    go_enter Try.func25, Try.ntmps25
    go_wp2_with fail
    refine wp_loop_rounds 1 ?_
    rw [rounds_succ]
    go_wp2
    go_ret
    exact ⟨rfl, Below.refl _ _⟩
  rcases hr' with hr' | ⟨b', o', rfl, R'⟩
  · have hz : n = 0 := by omega
    subst hz
    clear hn hn' d0 c0 hr' hc h n0
    go_enter Try.func25, Try.ntmps25
    go_wp2_with fail
    refine wp_loop_rounds 1 ?_
    rw [rounds_succ]
    go_wp2
    go_ret
    exact ⟨rfl, Below.refl _ _⟩
  clear hn' c0 d0
  replace hn := Hide.mk hn
  replace hc := Hide.mk hc
  replace R := Hide.mk R
  replace R' := Hide.mk R'
  go_enter Try.func25, Try.ntmps25
  go_wp2_with fail
  go_loopw [5] (fun s5 wr => ∃ (i : Nat) (r : F), s5 = .int .i64 i ∧ Hide (i + r.len = n) ∧ Hide (Row w r b (o + i * 4)) ∧ Hide (Row w r b' (o' + i * 4)) ∧ Hide (AllE r) ∧ Hide (r.cnt ≤ 1048576) ∧ Below w.heap.size w wr)
    (fun s5 _ => match s5 with | .int _ i => (n - i.toNat) | _ => 0)
  case atStart => exact ⟨0, t, rfl, ⟨by rw [hn.out]; omega⟩, ⟨by rw [show o + 0 * 4 = o by omega]; exact R.out⟩, ⟨by rw [show o' + 0 * 4 = o' by omega]; exact R'.out⟩, ⟨h⟩, hc, Below.refl _ _⟩
  case round =>
    obtain ⟨i, r, rfl, hi', hR, hR', hA, hC, B⟩ := hrel
    rcases r with _ | ⟨k, a, c, s, r⟩
    · have hi2 : (i : Int) = n := by have := hi'.out; simp only [F.len] at this; omega
      clear hR hR' hA hC
      go_wp2
      go_ret
      exact ⟨rfl, B⟩
    · have hi2 : (i : Int) < n := by have := hi'.out; simp only [F.len] at this; omega
      have S := Row.kept B hR.out
      have S' := Row.kept B hR'.out
      have T := hR.out.2.2
      have T' := hR'.out.2.2
      obtain ⟨⟨q0, q1, q2⟩, ⟨p1, n1, c1, q3, hn1, hr1⟩, _⟩ := S
      obtain ⟨⟨u0, u1, u2⟩, ⟨p2, n2, c2, u3, hn2, hr2⟩, _⟩ := S'
      subst hn1 hn2
      have hcs := s.cnt_nn
      have hcr := r.cnt_nn
      have hcc := hC.out
      simp only [F.cnt] at hcc
      have K1 : Hide (Kids wr s (.slice p1 s.len c1)) := ⟨p1, _, c1, rfl, rfl, hr1⟩
      have K2 : Hide (Kids wr s (.slice p2 s.len c2)) := ⟨p2, _, c2, rfl, rfl, hr2⟩
      have hsc : s.cnt ≤ 1048576 := by omega
      have q : ∀ d os, Calls Try.prog 15 #[exV k a c (.slice p1 s.len c1), exV k a c (.slice p2 s.len c2)] (grow (redrawn wr d) os) fun e w'' => e = .returned (.bool true) ∧ ∃ p : Regrown, w'' = grow (redrawn wr p.d) p.os :=
        fun d os => Calls.regrown_of (eq_one k a c s _ _ _ hA.out.1 (K1.out.kept (below_regrown wr d os)) (K2.out.kept (below_regrown wr d os)) hsc)
      replace T := Hide.mk T
      replace T' := Hide.mk T'
      replace hcc := Hide.mk hcc
      clear hr1 hr2 hR hR' K1 K2 hsc
      have z0 := cell_regrown q0
      have z1 := cell_regrown q1
      have z2 := cell_regrown q2
      have z3 := cell_regrown q3
      have y0 := cell_regrown u0
      have y1 := cell_regrown u1
      have y2 := cell_regrown u2
      have y3 := cell_regrown u3
      go_wp2_with fail
      refine KS.region (by kernel_rfl) (by kernel_rfl) ?_
      repeat (refine KS.step (fun K hK => ?_); go_simp; refine hK _ ?_; clear hK K)
      refine KS.step (fun K hK => ?_)
      go_simp
      apply Exists.intro
      refine ⟨fun _ => ?_, hK _ ?_⟩
      exact q _ _
      clear hK K
      repeat (refine KS.step (fun K hK => ?_); go_simp; refine hK _ ?_; clear hK K)
      refine KS.nil ?_
      rintro _ ⟨p', rfl⟩
      have Bx := below_regrown wr p'.d p'.os
      generalize grow (redrawn wr p'.d) p'.os = w1 at *
      have B1 := below1 B Bx
      clear q q0 q1 q2 q3 u0 u1 u2 u3 z0 z1 z2 z3 y0 y1 y2 y3 B Bx
      go_wp2
      go_roundw
      case measure => simp; omega
      case rel =>
        refine ⟨i + 1, r, by rw [show ((i + 1 : Nat) : Int) = (i : Int) + 1 by omega], ⟨by have := hi'.out; simp only [F.len] at this; omega⟩, ⟨?_⟩, ⟨?_⟩, ⟨hA.out.2⟩, ⟨by have := hcc.out; omega⟩, B1⟩
        · rw [show o + (i + 1) * 4 = o + i * 4 + 4 by omega]
          exact T.out
        · rw [show o' + (i + 1) * 4 = o' + i * 4 + 4 by omega]
          exact T'.out
theorem eq_all : ∀ t : F, PE t ∧ AllE t
  | .nil => ⟨eq_step .nil trivial, trivial⟩
  | .cons k a b t r => by
    have g : AllE (.cons k a b t r) := ⟨(eq_all t).1, (eq_all r).2⟩
    exact ⟨eq_step _ g, g⟩
theorem eqExpr_same (k a c : Int) (t : F) (v v' : Value) (w : World) (hk : Kids w t v) (hk' : Kids w t v') (hc : t.cnt ≤ 1048576) :
    Calls Try.prog 15 #[exV k a c v, exV k a c v'] w fun e w' => e = .returned (.bool true) ∧ Below w.heap.size w w' :=
  eq_one k a c t v v' w (eq_all t).1 hk hk' hc
end ER
end Go.Proofs.Ytlkompbigpbefab
