/-
  What the specification's functions of chapter 13 return: angles of sines.
-/
import Derived.Test.YtfdkpcejjcifgauSineWalks2
import Derived.Test.YtfdkpcejjcifgauSineBook
import Derived.Test.YtfdkpcejjcifgauNumLaws
namespace Go.Proofs.Ytfdkpcejjcifgau
open Go.RowKit Go.Sort
set_option linter.unusedVariables false
namespace SK
/-- By what is halved, as a value. -/
abbrev askV (sine : Bool) (num up right : Int) (small : Bool) : Value := .agg #[.bool sine, .int .i64 num, .int .i64 up, .int .i64 right, .bool small]
/-- By what is halved, in a block. -/
structure Ask (w : World) (b : Nat) (sine : Bool) (num up right : Int) (small : Bool) : Prop where
  c0 : w.cell? ⟨b, 0, none⟩ = some (.bool sine)
  c1 : w.cell? ⟨b, 1, none⟩ = some (.int .i64 num)
  c2 : w.cell? ⟨b, 2, none⟩ = some (.int .i64 up)
  c3 : w.cell? ⟨b, 3, none⟩ = some (.int .i64 right)
  c4 : w.cell? ⟨b, 4, none⟩ = some (.bool small)
theorem Ask.kept {w w' : World} {b : Nat} {sine small : Bool} {num up right : Int} (h : Ask w b sine num up right small) (k : Below w.heap.size w w') : Ask w' b sine num up right small :=
  ⟨(k.cell (cell_lt h.c0)).trans h.c0, (k.cell (cell_lt h.c0)).trans h.c1, (k.cell (cell_lt h.c0)).trans h.c2, (k.cell (cell_lt h.c0)).trans h.c3, (k.cell (cell_lt h.c0)).trans h.c4⟩
theorem Ask.new (w : World) (sine small : Bool) (num up right : Int) (t : TypeId) : Ask (w.alloc (.cells #[.bool sine, .int .i64 num, .int .i64 up, .int .i64 right, .bool small] t)) w.heap.size sine num up right small :=
  ⟨by simp [go_sem], by simp [go_sem], by simp [go_sem], by simp [go_sem], by simp [go_sem]⟩
theorem Ask.alloc {w : World} {b : Nat} {sine small : Bool} {num up right : Int} (h : Ask w b sine num up right small) (o : Obj) : Ask (w.alloc o) b sine num up right small := h.kept (below_new _ _)
theorem fuel {n : Nat} {d : Int} (h : d ≤ (2 : Int) ^ n) (g : 1 < d) : ∃ m, n = m + 1 ∧ ∀ e : Int, 2 * e ≤ d + 1 → e ≤ (2 : Int) ^ m := by
  cases n with
  | zero => simp at h; omega
  | succ m =>
    refine ⟨m, rfl, fun e he => ?_⟩
    rw [Int.pow_succ] at h
    omega
end SK
end Go.Proofs.Ytfdkpcejjcifgau
