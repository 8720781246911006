/-
  How large a tree is: of something with Kids; then of whatever tree; ExprOk.
-/
import Derived.Test.YtlkompbigpbefabExprSize
namespace Go.Proofs.Ytlkompbigpbefab
open Go.RowKit Go.Sort
set_option linter.unusedVariables false
set_option maxRecDepth 8000
namespace ER
open EM SK
/-- l31Size answers so for whatever has these Kids. -/
def PS (s : F) : Prop := ∀ (k a b : Int) (v : Value) (most : Int) (w : World), Kids w s v → -1000000 ≤ most → most ≤ 1000000 →
    Calls Try.prog 22 #[exV k a b v, .int .i64 most] w fun e w' => e = .returned (.int .i64 (szV (formB k a b s.len && s.okF) (1 + s.cnt) most)) ∧ Below w.heap.size w w'
def AllS : F → Prop
  | .nil => True
  | .cons _ _ _ t r => PS t ∧ AllS r
theorem szV_lo {ok : Bool} {c most : Int} (h : 0 ≤ c) : 0 ≤ most → most ≤ 1000010 → 1 ≤ szV ok (1 + c) most := by
  intro m0 m1
  unfold szV
  split <;> omega
theorem szV_iff {ok : Bool} {c most y : Int} (e : y = szV ok c most) (d : y ≤ most) : ok = true ∧ y = c ∧ c ≤ most := by
  subst e
  unfold szV at *
  split at d
  · rename_i h; rw [if_pos h]; exact ⟨h.1, rfl, h.2⟩
  · omega
theorem szV_not {ok : Bool} {c most y : Int} (e : y = szV ok c most) (d : ¬ y ≤ most) : y = most + 1 ∧ ¬ (ok = true ∧ c ≤ most) := by
  subst e
  unfold szV at *
  split at d
  · omega
  · rename_i h; rw [if_neg h]; exact ⟨rfl, h⟩
theorem fin1 {ok : Bool} {c most y : Int} (e : y = szV ok (1 + c) (most - 1)) (d : ¬ 1 + y ≤ most) : szV ok (2 + c) most = most + 1 := by
  obtain ⟨_, h⟩ := szV_not e (by omega)
  unfold szV
  rw [if_neg (fun g => h ⟨g.1, by omega⟩)]
theorem fin3 {ok : Bool} {c most y : Int} (e : y = szV ok (1 + c) (most - 1)) (d : 1 + y ≤ most) : szV ok (2 + c) most = 1 + y := by
  obtain ⟨h1, h2, h3⟩ := szV_iff e (by omega)
  unfold szV
  rw [if_pos ⟨h1, by omega⟩]
  omega
theorem fin2 {ok ok' : Bool} {c c' most y : Int} (e : y = szV ok (1 + c) (most - 1)) (hc : 0 ≤ c') (d : ¬ 1 + y ≤ most) : szV (ok && ok') (3 + c + c') most = most + 1 := by
  obtain ⟨_, h⟩ := szV_not e (by omega)
  unfold szV
  rw [if_neg (fun g => h ⟨(Bool.and_eq_true _ _ ▸ g.1).1, by omega⟩)]
theorem fin4 {ok ok' : Bool} {c c' most y y' : Int} (e : y = szV ok (1 + c) (most - 1)) (d : 1 + y ≤ most) (e' : y' = szV ok' (1 + c') (most - (1 + y))) (d' : ¬ 1 + y + y' ≤ most) : szV (ok && ok') (3 + c + c') most = most + 1 := by
  obtain ⟨h1, h2, h3⟩ := szV_iff e (by omega)
  obtain ⟨_, h⟩ := szV_not e' (by omega)
  unfold szV
  rw [if_neg (fun g => h ⟨(Bool.and_eq_true _ _ ▸ g.1).2, by omega⟩)]
theorem fin5 {ok ok' : Bool} {c c' most y y' : Int} (e : y = szV ok (1 + c) (most - 1)) (d : 1 + y ≤ most) (e' : y' = szV ok' (1 + c') (most - (1 + y))) (d' : 1 + y + y' ≤ most) : szV (ok && ok') (3 + c + c') most = 1 + y + y' := by
  obtain ⟨h1, h2, h3⟩ := szV_iff e (by omega)
  obtain ⟨h4, h5, h6⟩ := szV_iff e' (by omega)
  unfold szV
  rw [if_pos ⟨by rw [h1, h4]; rfl, by omega⟩]
  omega
end ER
end Go.Proofs.Ytlkompbigpbefab
