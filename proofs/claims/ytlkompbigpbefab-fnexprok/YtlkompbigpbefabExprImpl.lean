/-
  What the program makes of whatever Expr: impl.reckonedOf; impl.ExprOk.
-/
import Derived.Test.YtlkompbigpbefabExprTake
namespace Go.Proofs.Ytlkompbigpbefab
open Go.RowKit Go.Sort
set_option linter.unusedVariables false
set_option maxRecDepth 8000
namespace ER
open EM SK
theorem take_step (s : F) (h : AllK s) : PK s := by
  intro k a b v W w R n hk B hR Rm n0 n1
  obtain ⟨p, l, cap, rfl, hl, hr⟩ := hk
  subst hl
  by_cases hn : n = 0
  · subst hn
    rw [okN_none]
    exact take_none k a b p _ cap w R Rm _ _
  · cases hf : formB k a b s.len
    · rw [okN_form hf]
      exact take_form k a b p _ cap hf w R n Rm (by omega) n1 _ _
    · rcases (show s.len = 0 ∨ s.len = 1 ∨ s.len = 2 by rcases form_kinds hf with g | g | g | g <;> omega) with g | g | g
      · obtain rfl := len0 g
        exact take0 k a b W w p hf cap R n B hR Rm (by omega) n1
      · obtain ⟨k1, a1, b1, t1, rfl⟩ := len1 g
        rcases hr with hr | ⟨x, o, rfl, ⟨⟨q0, q1, q2⟩, ⟨p1, n1', c1, q3, hn1, hr1⟩, _⟩⟩
        · omega
        · subst hn1
          exact take1 k a b W w x o k1 a1 b1 t1 p1 c1 q0 q1 q2 q3 ⟨p1, _, c1, rfl, rfl, hr1⟩ h.1 hf cap R n B hR Rm (by omega) n1
      · obtain ⟨k1, a1, b1, t1, k2, a2, b2, t2, rfl⟩ := len2 g
        rcases hr with hr | ⟨x, o, rfl, ⟨⟨q0, q1, q2⟩, ⟨p1, n1', c1, q3, hn1, hr1⟩, ⟨⟨r0, r1, r2⟩, ⟨p2, n2', c2, r3, hn2, hr2⟩, _⟩⟩⟩
        · omega
        · subst hn1 hn2
          exact take2 k a b W w x o k1 a1 b1 t1 p1 c1 k2 a2 b2 t2 p2 c2 q0 q1 q2 q3 ⟨p1, _, c1, rfl, rfl, hr1⟩ h.1 r0 r1 r2 r3 ⟨p2, _, c2, rfl, rfl, hr2⟩ h.2.1 hf cap R n B hR Rm (by omega) n1
theorem take_all : ∀ s : F, PK s ∧ AllK s
  | .nil => ⟨take_step .nil trivial, trivial⟩
  | .cons k a b t r => by
    have g : AllK (.cons k a b t r) := ⟨(take_all t).1, (take_all r).2⟩
    exact ⟨take_step _ g, g⟩
theorem okN_15 (k a b : Int) (s : F) : okN k a b s 15 = okB k a b s := rfl
set_option maxHeartbeats 4000000 in
theorem reckonedOf_any (k a b : Int) (s : F) (v : Value) (w : World) (h : Kids w s v) :
    Calls Try.prog 20 #[exV k a b v] w fun e w' => ((okB k a b s = true ∧ e = .returned (.tuple #[.iface (kT k) (inV k a b s.evV), .bool true])) ∨ (okB k a b s = false ∧ e = .returned (.tuple #[.nilIface, .bool false]))) ∧ Below w.heap.size w w' := by
  obtain ⟨p, l, cap, rfl, hl, hr⟩ := h
  subst hl
  have hk : Kids w s (.slice p s.len cap) := ⟨p, _, cap, rfl, rfl, hr⟩
  clear hr
  have E := Ex.new w k a b (.slice p s.len cap) 25
  have B := below_new w (.cells #[.int .i64 k, .int .i64 a, .int .i64 b, .slice p s.len cap] 25)
  have Rm : Room ((w.alloc (.cells #[.int .i64 k, .int .i64 a, .int .i64 b, .slice p s.len cap] 25)).alloc (.cells #[.int .i64 15] 3)) (w.alloc (.cells #[.int .i64 k, .int .i64 a, .int .i64 b, .slice p s.len cap] 25)).heap.size 15 := ⟨by simp [go_sem], by simp [go_sem]⟩
  have sz : (w.alloc (.cells #[.int .i64 k, .int .i64 a, .int .i64 b, .slice p s.len cap] 25)).heap.size = w.heap.size + 1 := by simp
  rw [sz] at Rm
  have B2 := below1 B (below_new _ (.cells #[.int .i64 15] 3))
  have E2 := E.kept (below_new _ (.cells #[.int .i64 15] 3))
  have K := (take_all s).1 k a b _ w _ (w.heap.size + 1) 15 hk B2 (by omega) Rm (by omega) (by omega)
  rw [okN_15] at K
  replace K := Hide.mk K
  clear hk Rm sz E
  go_enter Try.func20, Try.ntmps20
  have ⟨E0, E1, E2', E3⟩ := E2
  go_wp2_with fail
  refine (K.out).mono ?_
  clear K E0 E1 E2' E3 E2
  intro e w3 tk
  obtain ⟨m, Tk, _, _, _, ⟨ho, _, rfl⟩ | ⟨ho, rfl⟩⟩ := tk.two
  · replace ho := Hide.mk ho
    have B3 : Below w.heap.size w w3 := B2.trans (Tk.toBelow (by simp; omega) (by omega))
    clear tk Tk B2 B
    go_wp2
    go_ret2
    exact ⟨.inl ⟨ho.out, rfl⟩, B3⟩
  · replace ho := Hide.mk ho
    have B3 : Below w.heap.size w w3 := B2.trans (Tk.toBelow (by simp; omega) (by omega))
    clear tk Tk B2 B
    go_wp2
    go_ret2
    exact ⟨.inr ⟨ho.out, rfl⟩, B3⟩
set_option maxHeartbeats 4000000 in
theorem iExprOk_any (k a b : Int) (s : F) (v : Value) (w : World) (h : Kids w s v) : Calls Try.prog 11 #[exV k a b v] w fun e w' => e = .returned (.bool (okB k a b s)) ∧ Below w.heap.size w w' := by
  have B := below_new w (.cells #[.int .i64 k, .int .i64 a, .int .i64 b, v] 25)
  have K := reckonedOf_any k a b s v _ (h.kept B)
  obtain ⟨p, _, cap, rfl, rfl, _⟩ := h
  have E := Ex.new w k a b (.slice p s.len cap) 25
  obtain ⟨E0, E1, E2, E3⟩ := E
  replace K := Hide.mk K
  go_enter Try.func11, Try.ntmps11
  go_wp2_with fail
  refine K.out.mono ?_
  clear K E0 E1 E2 E3
  rintro e w1 ⟨⟨ho, rfl⟩ | ⟨ho, rfl⟩, Bx⟩
  · replace B := below1 B Bx
    replace ho := Hide.mk ho
    clear Bx
    go_wp2
    go_ret
    exact ⟨by rw [ho.out]; rfl, B⟩
  · replace B := below1 B Bx
    replace ho := Hide.mk ho
    clear Bx
    go_wp2
    go_ret
    exact ⟨by rw [ho.out]; rfl, B⟩
end ER
end Go.Proofs.Ytlkompbigpbefab
