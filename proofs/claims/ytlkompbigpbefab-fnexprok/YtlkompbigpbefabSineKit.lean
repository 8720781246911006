/-
  What every walk of chapter 12 needs: spans in blocks, worlds that keep what lay.
-/
import Derived.Test.YtlkompbigpbefabRows
import Derived.Test.YtlkompbigpbefabNumWalks
import Derived.WalkKit
import Derived.Below
import Derived.Lib.QuietBelow
import Derived.Lib.MinMax
namespace Go.Proofs.Ytlkompbigpbefab
open Go.RowKit Go.Sort
set_option linter.unusedVariables false
namespace SK
/-- Hidden from the walk's simp. -/
structure Hide (p : Prop) : Prop where
  out : p
/-- A span, as a value. -/
abbrev spV (l h : Int) : Value := .agg #[.int .i64 l, .int .i64 h]
theorem wrap_id {n : Int} (h1 : -9223372036854775808 ≤ n) (h2 : n ≤ 9223372036854775807) : IntKind.i64.wrap n = n := by
  simp [IntKind.wrap, IntKind.bits, IntKind.signed]
  omega
theorem cell_lt {w : World} {b o : Nat} {v : Value} (h : w.cell? ⟨b, o, none⟩ = some v) : b < w.heap.size := by
  by_cases c : b < w.heap.size
  · exact c
  · have e : w.heap[b]? = none := by simp; omega
    simp [World.cell?, e] at h
/-- Two numbers lie in block 'b'. -/
structure Box (w : World) (b : Nat) (x y : Int) : Prop where
  c0 : w.cell? ⟨b, 0, none⟩ = some (.int .i64 x)
  c1 : w.cell? ⟨b, 1, none⟩ = some (.int .i64 y)
  f0 : w.frozen? ⟨b, 0, none⟩ = false
  f1 : w.frozen? ⟨b, 1, none⟩ = false
theorem Box.lt {w : World} {b : Nat} {x y : Int} (h : Box w b x y) : b < w.heap.size := cell_lt h.c0
theorem Box.kept {w w' : World} {b : Nat} {x y : Int} (h : Box w b x y) (k : Below w.heap.size w w') : Box w' b x y :=
  ⟨(k.cell h.lt).trans h.c0, (k.cell h.lt).trans h.c1, (k.frozen h.lt).trans h.f0, (k.frozen h.lt).trans h.f1⟩
theorem Box.new (w : World) (x y : Int) (t : TypeId) : Box (w.alloc (.cells #[.int .i64 x, .int .i64 y] t)) w.heap.size x y :=
  ⟨by simp [go_sem], by simp [go_sem], by simp [go_sem], by simp [go_sem]⟩
theorem Box.alloc {w : World} {b : Nat} {x y : Int} (h : Box w b x y) (o : Obj) : Box (w.alloc o) b x y := h.kept ((Below.refl _ _).alloc (Nat.le_refl _) _)
theorem Box.new2 (w : World) (o : Obj) (x y : Int) (t : TypeId) : Box ((w.alloc o).alloc (.cells #[.int .i64 x, .int .i64 y] t)) (w.heap.size + 1) x y := by
  have := Box.new (w.alloc o) x y t
  simpa using this
theorem Box.set {w : World} {b : Nat} {x y : Int} (h : Box w b x y) (x' y' : Int) : Box ((w.setCell ⟨b, 0, none⟩ (.int .i64 x')).setCell ⟨b, 1, none⟩ (.int .i64 y')) b x' y' := by
  obtain ⟨c0, c1, f0, f1⟩ := h
  exact ⟨by simp [go_sem, *], by simp [go_sem, *], by simp [go_sem, *], by simp [go_sem, *]⟩
theorem Box.apart {w : World} {b c o : Nat} {x y : Int} (h : Box w b x y) (hn : c ≠ b) (v : Value) : Box (w.setCell ⟨c, o, none⟩ v) b x y := by
  have e : (w.setCell ⟨c, o, none⟩ v).heap[b]? = w.heap[b]? := Below.heap_setCell _ _ _ _ (Ne.symm hn)
  exact ⟨(World.cell?_of_block (w := w) e).trans h.c0, (World.cell?_of_block (w := w) e).trans h.c1, (World.frozen?_of_block (w := w) e).trans h.f0, (World.frozen?_of_block (w := w) e).trans h.f1⟩
theorem below1 {w w1 w2 : World} (B1 : Below w.heap.size w w1) (B2 : Below w1.heap.size w1 w2) : Below w.heap.size w w2 := B1.trans (B2.mono B1.size)
theorem below_new (w : World) (o : Obj) : Below w.heap.size w (w.alloc o) := (Below.refl _ _).alloc (Nat.le_refl _) _
theorem below_new2 (w : World) (o o' : Obj) : Below w.heap.size w ((w.alloc o).alloc o') := below1 (below_new w o) (below_new _ o')
theorem below_set2 {w w1 : World} {b : Nat} (B : Below w.heap.size w w1) (hb : w.heap.size ≤ b) (u v : Value) : Below w.heap.size w ((w1.setCell ⟨b, 0, none⟩ u).setCell ⟨b, 1, none⟩ v) :=
  (B.setCell hb _).setCell hb _
theorem field0 (x y : Int) (w : World) : Sem.run Try.prog (Instr.field 58 (spV x y) 0) w = .ok (.int .i64 x) w := by kernel_rfl
theorem field1 (x y : Int) (w : World) : Sem.run Try.prog (Instr.field 58 (spV x y) 1) w = .ok (.int .i64 y) w := by kernel_rfl
end SK
end Go.Proofs.Ytlkompbigpbefab
