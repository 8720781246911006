/-
  Trees as they lie in memory: what an Expr's value says of its Kids; what the specification's l31Kids, l31Size and ExprOk return.
-/
import Derived.Test.YtlkompbigpbefabRows
import Derived.Test.YtlkompbigpbefabNumWalks
import Derived.Test.YtlkompbigpbefabSineKit
import Derived.Test.YtlkompbigpbefabExprMath2
import Derived.Test.YtlkompbigpbefabKeptStep
import Derived.WalkKit
import Derived.Below
namespace Go.Proofs.Ytlkompbigpbefab
open Go.RowKit Go.Sort
set_option linter.unusedVariables false
set_option maxRecDepth 8000
namespace ER
open EM SK
/-- An Expr, as a value; 'v' is its Kids. -/
abbrev exV (k a b : Int) (v : Value) : Value := .agg #[.int .i64 k, .int .i64 a, .int .i64 b, v]
/-- Nodes beside each other lie from cell 'o' of block 'b' on. -/
def Row (w : World) : F → Nat → Nat → Prop
  | .nil, _, _ => True
  | .cons k a c t r, b, o => (w.cell? ⟨b, o, none⟩ = some (.int .i64 k) ∧ w.cell? ⟨b, o + 1, none⟩ = some (.int .i64 a) ∧ w.cell? ⟨b, o + 2, none⟩ = some (.int .i64 c)) ∧
      (∃ p n cap, w.cell? ⟨b, o + 3, none⟩ = some (.slice p n cap) ∧ n = t.len ∧ (t.len = 0 ∨ ∃ b' o', p = some ⟨b', o', none⟩ ∧ Row w t b' o')) ∧ Row w r b (o + 4)
/-- This value is the Kids. -/
def Kids (w : World) (t : F) (v : Value) : Prop := ∃ p n cap, v = .slice p n cap ∧ n = t.len ∧ (t.len = 0 ∨ ∃ b' o', p = some ⟨b', o', none⟩ ∧ Row w t b' o')
theorem Row.kept {w w' : World} (h : Below w.heap.size w w') : ∀ {t : F} {b o : Nat}, Row w t b o → Row w' t b o
  | .nil, _, _, _ => trivial
  | .cons k a c t r, b, o, ⟨⟨h1, h2, h3⟩, ⟨p, n, cap, h4, h5, h6⟩, h7⟩ => by
    refine ⟨⟨(h.cell (cell_lt h1)).trans h1, (h.cell (cell_lt h2)).trans h2, (h.cell (cell_lt h3)).trans h3⟩, ⟨p, n, cap, (h.cell (cell_lt h4)).trans h4, h5, ?_⟩, Row.kept h h7⟩
    rcases h6 with h6 | ⟨b', o', e, h6⟩
    · exact .inl h6
    · exact .inr ⟨b', o', e, Row.kept h h6⟩
theorem Kids.kept {w w' : World} {t : F} {v : Value} (h : Kids w t v) (k : Below w.heap.size w w') : Kids w' t v := by
  obtain ⟨p, n, cap, rfl, h5, h6⟩ := h
  refine ⟨p, n, cap, rfl, h5, ?_⟩
  rcases h6 with h6 | ⟨b', o', e, h6⟩
  · exact .inl h6
  · exact .inr ⟨b', o', e, h6.kept k⟩
/-- An Expr lies in block 'b'. -/
structure Ex (w : World) (b : Nat) (k a c : Int) (v : Value) : Prop where
  c0 : w.cell? ⟨b, 0, none⟩ = some (.int .i64 k)
  c1 : w.cell? ⟨b, 1, none⟩ = some (.int .i64 a)
  c2 : w.cell? ⟨b, 2, none⟩ = some (.int .i64 c)
  c3 : w.cell? ⟨b, 3, none⟩ = some v
theorem Ex.kept {w w' : World} {b : Nat} {k a c : Int} {v : Value} (h : Ex w b k a c v) (x : Below w.heap.size w w') : Ex w' b k a c v :=
  ⟨(x.cell (cell_lt h.c0)).trans h.c0, (x.cell (cell_lt h.c0)).trans h.c1, (x.cell (cell_lt h.c0)).trans h.c2, (x.cell (cell_lt h.c0)).trans h.c3⟩
theorem Ex.new (w : World) (k a c : Int) (v : Value) (t : TypeId) : Ex (w.alloc (.cells #[.int .i64 k, .int .i64 a, .int .i64 c, v] t)) w.heap.size k a c v :=
  ⟨by simp [go_sem], by simp [go_sem], by simp [go_sem], by simp [go_sem]⟩
theorem l31Kids_any (k : Int) (w : World) : Calls Try.prog 38 #[.int .i64 k] w fun e w' => e = .returned (.int .i64 (kidsN k)) ∧ Below w.heap.size w w' := by
  have K := fun w => NW.l6In_any k 1 8 w
  by_cases h : k < 1 ∨ 8 < k
  · rw [show NM.inB k 1 8 = false from decide_eq_false (by omega)] at K
    rw [kidsN_no h]
    go_enter Try.func38, Try.ntmps38
    go_wp2_with fail
    refine (K _).mono ?_
    rintro e w' ⟨rfl, rfl⟩
    go_wp2
    go_ret
    exact ⟨rfl, Below.refl _ _⟩
  · rw [show NM.inB k 1 8 = true from decide_eq_true (by omega)] at K
    rcases (show k = 1 ∨ k = 2 ∨ k = 3 ∨ k = 4 ∨ k = 5 ∨ k = 6 ∨ k = 7 ∨ k = 8 by omega) with rfl | rfl | rfl | rfl | rfl | rfl | rfl | rfl
    all_goals
      go_enter Try.func38, Try.ntmps38
      go_wp2_with fail
      refine (K _).mono ?_
      rintro e w' ⟨rfl, rfl⟩
      go_wp2
      go_ret
      exact ⟨rfl, below_new _ _⟩
end ER
end Go.Proofs.Ytlkompbigpbefab
