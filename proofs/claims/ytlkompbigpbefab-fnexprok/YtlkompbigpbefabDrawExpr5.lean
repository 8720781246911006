/-
  The draw of a tree of whatever depth: what the specification's l71Expr returns.
-/
import Derived.Test.YtlkompbigpbefabDrawExpr4
namespace Go.Proofs.Ytlkompbigpbefab
open Go.RowKit Go.Sort
set_option linter.unusedVariables false
set_option maxRecDepth 8000
namespace DX
open DK DW SK EM ER
/-- How often the reader reads at most, by the depth. -/
def bn : Nat → Nat
  | 0 => 60
  | n + 1 => 22 * bn n + 100
theorem bn_le : ∀ n, 60 ≤ bn n
  | 0 => Nat.le_refl _
  | n + 1 => by simp only [bn]; omega
theorem l71Expr_any (ex : Bool) : ∀ (n : Nat) (deep : Int) (w : World) (k p : Nat), deep ≤ n + 1 → -1000 ≤ deep → n ≤ 100 → p + bn n ≤ 800000000 → Rd w k p →
    Calls Try.prog 26 #[.pointer (some ⟨k, 0, none⟩), .int .i64 deep, .bool ex] w fun e w' => ∃ (kk a c : Int) (t : F) (u : Value) (q : Nat), e = .returned (exV kk a c u) ∧ OwnX w.heap.size w' u t ∧ t.len ≤ 2 ∧ Rd w' k q ∧ q ≤ p + bn n ∧ Tch k w.heap.size w w' := by
  intro n
  induction n with
  | zero =>
    intro deep w k p h1 h0 _ hp R
    have b := bn_le 0
    cases ex
    · exact (leaf_false deep w k p (by omega) h0 (by omega) R).mono fun e w' ⟨kk, a, c, t, u, q, g1, g2, g3, g4, g5, g6⟩ => ⟨kk, a, c, t, u, q, g1, g2, g3, g4, by omega, g6⟩
    · exact (leaf_true deep w k p (by omega) h0 (by omega) R).mono fun e w' ⟨kk, a, c, t, u, q, g1, g2, g3, g4, g5, g6⟩ => ⟨kk, a, c, t, u, q, g1, g2, g3, g4, by omega, g6⟩
  | succ n ih =>
    intro deep w k p h1 h0 hn hp R
    have b := bn_le (n + 1)
    by_cases hd : deep < 2
    · cases ex
      · exact (leaf_false deep w k p hd h0 (by omega) R).mono fun e w' ⟨kk, a, c, t, u, q, g1, g2, g3, g4, g5, g6⟩ => ⟨kk, a, c, t, u, q, g1, g2, g3, g4, by omega, g6⟩
      · exact (leaf_true deep w k p hd h0 (by omega) R).mono fun e w' ⟨kk, a, c, t, u, q, g1, g2, g3, g4, g5, g6⟩ => ⟨kk, a, c, t, u, q, g1, g2, g3, g4, by omega, g6⟩
    · simp only [bn] at hp ⊢
      have C : ∀ (w' : World) (p' : Nat), p' + bn n ≤ 800000000 → Rd w' k p' → Calls Try.prog 26 #[.pointer (some ⟨k, 0, none⟩), .int .i64 (deep - 1), .bool ex] w' fun e w'' => ∃ (kk a c : Int) (t : F) (u : Value) (q : Nat), e = .returned (exV kk a c u) ∧ OwnX w'.heap.size w'' u t ∧ t.len ≤ 2 ∧ Rd w'' k q ∧ q ≤ p' + bn n ∧ Tch k w'.heap.size w' w'' :=
        fun w' p' hp' R' => ih (deep - 1) w' k p' (by omega) (by omega) (by omega) hp' R'
      cases ex
      · exact (more_false deep w k p (by omega) (by omega) (bn n) (by omega) C R).mono fun e w' ⟨kk, a, c, t, u, q, g1, g2, g3, g4, g5, g6⟩ => ⟨kk, a, c, t, u, q, g1, g2, g3, g4, by omega, g6⟩
      · exact (more_true deep w k p (by omega) (by omega) (bn n) (by omega) C R).mono fun e w' ⟨kk, a, c, t, u, q, g1, g2, g3, g4, g5, g6⟩ => ⟨kk, a, c, t, u, q, g1, g2, g3, g4, by omega, g6⟩
end DX
end Go.Proofs.Ytlkompbigpbefab
