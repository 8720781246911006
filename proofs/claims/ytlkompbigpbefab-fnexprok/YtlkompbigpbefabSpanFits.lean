/-
  impl's 'fits', 'told' and SpanOk, where the package's variable errTooGreat holds a sentinel.
-/
import Derived.Test.YtlkompbigpbefabRows
import Derived.Test.YtlkompbigpbefabSpanMath
import Derived.Test.YtlkompbigpbefabNumWalks
import Derived.WalkKit
import Derived.Below
import Derived.Deep.Draws
import Derived.Lib.QuietBelow
import Derived.Lib.MinMax
namespace Go.Proofs.Ytlkompbigpbefab
open Go.RowKit Go.Sort
set_option linter.unusedVariables false
namespace SW
open SM

/-- A span, as a value. -/
abbrev spV (l h : Int) : Value := .agg #[.int .i64 l, .int .i64 h]
theorem wrap_id {n : Int} (h1 : -9223372036854775808 ≤ n) (h2 : n ≤ 9223372036854775807) : IntKind.i64.wrap n = n := by
  simp [IntKind.wrap, IntKind.bits, IntKind.signed]
  omega
theorem cell_lt {w : World} {b o : Nat} {v : Value} (h : w.cell? ⟨b, o, none⟩ = some v) : b < w.heap.size := by
  by_cases c : b < w.heap.size
  · exact c
  · have e : w.heap[b]? = none := by simp; omega
    simp [World.cell?, e] at h
theorem below_drewN {B : Nat} {a w : World} (h : Below B a w) (m : Nat) : Below B a (w.drewN m) := ⟨h.os, h.tape, h.output, h.size, h.block⟩
theorem le_alloc {n : Nat} {w : World} (o : Obj) (h : n ≤ w.heap.size) : n ≤ (w.alloc o).heap.size := by simp; omega
theorem le_setCell {n : Nat} {w : World} (a : Addr) (v : Value) (h : n ≤ w.heap.size) : n ≤ (w.setCell a v).heap.size := by simpa [World.setCell] using h
theorem le_drewN {n : Nat} {w : World} (m : Nat) (h : n ≤ w.heap.size) : n ≤ (w.drewN m).heap.size := h
theorem le_drew {n : Nat} {w : World} (h : n ≤ w.heap.size) : n ≤ w.drew.heap.size := h
def fitB (l h : Int) : Bool := decide (-1073000000 ≤ l ∧ l ≤ 1073000000 ∧ -1073000000 ≤ h ∧ h ≤ 1073000000)

theorem okS_fit {l h : Int} (c : l ≤ h) : fitB l h = okS l h := by
  exact bool_eq (fun e => okS_mk (by have := of_decide_eq_true e; omega)) (fun e => decide_eq_true (by have := okS_of e; omega))

/-- A contract that ends in 'Below', and one that leaves the world as it was, met in a world of a drawn region's class. -/
theorem same_below {P : Program} {f : FuncId} {args : Array Value} {w : World} {v : Value} (h : Calls P f args w fun e w' => e = .returned v ∧ w' = w) : Calls P f args w fun e w' => e = .returned v ∧ Below w.heap.size w w' :=
  h.mono fun _ _ ⟨he, hw⟩ => ⟨he, hw ▸ Below.refl _ _⟩

end SW
end Go.Proofs.Ytlkompbigpbefab
