/-
  What the exact laws over spans have in common: a span that came in, toSpan, eqSpan, the one new block of a statement that draws its order.
-/
import Derived.Test.YtldogjldnckdmayDoorDoorKit
import Derived.Test.YtldogjldnckdmayDoorSpanWalks
import Derived.Test.YtldogjldnckdmayDoorLoose
import Derived.Lib.SmallJoins
import Derived.WalkKit
import Derived.Below
namespace Go.Proofs.YtldogjldnckdmayDoor
open Go.ChangeShapes Go.WideShapes Go.ChangeAt Go.RowKit Go.Sort Go.Joins
set_option linter.unusedVariables false
namespace EK
open SW SM

theorem cellsSp : Tryd.prog.cellsOf 23 = 2 := by kernel_rfl
theorem open_span {H : Type} {enc : TypeId × Value → H} {w : World} {base : Nat} {spare : Nat → Bool} {held : Bool} {r : Reach} {b0 : Nat} {v : Value} {d : DataW H} {p : List MemPlace}
    (hv : Value.okWide Tryd.prog w r b0 23 v) (h : DataW.Trod enc Tryd.prog w base spare held 23 v d p) :
    ∃ x y : Int, v = .agg #[.int .i64 x, .int .i64 y] ∧ d = .agg [.lit (.int .i64 x), .lit (.int .i64 y)] ∧ p = [] ∧ (Lit.int .i64 x).wf = true ∧ (Lit.int .i64 y).wf = true := by
  obtain ⟨c0, c1, y0, y1, m, rfl, rfl, rfl, hy0, hy1⟩ := open_agg2 Tryd.underlying23 (by kernel_rfl) cellsSp hv h
  obtain ⟨x, e0, rfl, wx⟩ := DataW.trod_int Tryd.underlying3 hy0
  obtain ⟨y, e1, rfl, wy⟩ := DataW.trod_int Tryd.underlying3 hy1
  simp at e0 e1
  subst e0 e1
  exact ⟨x, y, rfl, rfl, rfl, wx, wy⟩
theorem shut_span {H : Type} {enc : TypeId × Value → H} {w : World} {base : Nat} {spare : Nat → Bool} {held : Bool} {x y : Int} (wx : (Lit.int .i64 x).wf = true) (wy : (Lit.int .i64 y).wf = true) :
    DataW.Trod enc Tryd.prog w base spare held 23 (.agg #[.int .i64 x, .int .i64 y]) (.agg [.lit (.int .i64 x), .lit (.int .i64 y)]) [] :=
  shut_agg2 (y0 := (.lit (.int .i64 x), [])) (y1 := (.lit (.int .i64 y), [])) Tryd.underlying23 (by kernel_rfl) cellsSp ⟨1, by simp [DataW.trod, Tryd.underlying3, wx]⟩ ⟨1, by simp [DataW.trod, Tryd.underlying3, wy]⟩
theorem bounds {x : Int} (h : (Lit.int .i64 x).wf = true) : -9223372036854775808 ≤ x ∧ x ≤ 9223372036854775807 := bounds_i64 h

theorem toSpan_any (l h : Int) (w : World) : Calls Tryd.prog 7 #[spV l h] w fun e w' => e = .returned (spV l h) ∧ Below w.heap.size w w' := by
  go_enter Tryd.func7, Tryd.ntmps7
  go_wp2
  refine bodyPost_ret (v := .agg #[.int .i64 l, .int .i64 h]) (by simp [results, Tryd.results7, go_sem]) rfl ⟨rfl, ?_⟩
  repeat (first | exact Below.refl _ _ | refine Below.setCell ?_ (by simp <;> omega) _ | refine Below.alloc ?_ (by simp <;> omega) _)

/-- In a region: the one operation that makes a block of two numbers. -/
def ndBox (base k : Nat) : Nat → Option (Value → World → Prop) := fun i => if i = k then some (fun u w' => ∃ b, u = .pointer (some ⟨b, 0, none⟩) ∧ base ≤ b ∧ Box w' b 0 0) else none
theorem ndBox_keeps {base k : Nat} {w w' : World} (h : Below w.heap.size w w') : LR.Keeps (ndBox base k) w w' := by
  intro i Φ u hi hΦ
  unfold ndBox at hi
  split at hi
  · cases hi
    obtain ⟨b, rfl, hb, X⟩ := hΦ
    exact ⟨b, rfl, hb, X.kept h⟩
  · cases hi
abbrev Cl (w : World) : Nat → World → Prop := fun _ w' => ∃ p : Regrown, w' = grow (redrawn w p.d) p.os
theorem Cl.start (w : World) (n : Nat) : Cl w n { w with drawn := w.drawn + 1 } := ⟨⟨w.drawn + 1, #[]⟩, by rw [grow_empty]; rfl⟩
theorem loose_of {f : FuncId} {args : Array Value} {w : World} {d : Nat} {os : Array Obj} {v : Value} {base k : Nat}
    (h : Calls Tryd.prog f args (grow (redrawn w d) os) fun e w' => e = .returned v ∧ Below (grow (redrawn w d) os).heap.size (grow (redrawn w d) os) w') :
    Calls Tryd.prog f args (grow (redrawn w d) os) fun e w'' => e = .returned v ∧ (∃ p : Regrown, w'' = grow (redrawn w p.d) p.os) ∧ LR.Keeps (ndBox base k) (grow (redrawn w d) os) w'' :=
  h.mono fun _ _ ⟨he, hb⟩ => ⟨he, regrown_of_below (below1 (below_regrown w d os) hb), ndBox_keeps hb⟩
theorem alloc_loose (w : World) (d : Nat) (os : Array Obj) (k : Nat) (t : TypeId) (m : Nat) (hm : m = (grow (redrawn w d) os).heap.size) : (∃ p : Regrown, (grow (redrawn w d) os).alloc (.cells #[.int .i64 0, .int .i64 0] t) = grow (redrawn w p.d) p.os) ∧
    (∃ b, Value.pointer (some ⟨m, 0, none⟩) = .pointer (some ⟨b, 0, none⟩) ∧ w.heap.size ≤ b ∧ Box ((grow (redrawn w d) os).alloc (.cells #[.int .i64 0, .int .i64 0] t)) b 0 0) ∧
    LR.Keeps (ndBox w.heap.size k) (grow (redrawn w d) os) ((grow (redrawn w d) os).alloc (.cells #[.int .i64 0, .int .i64 0] t)) :=
  ⟨regrown_of_below (below1 (below_regrown w d os) (below_new _ _)), ⟨_, rfl, hm ▸ (below_regrown w d os).size, hm ▸ Box.new _ 0 0 t⟩, ndBox_keeps (below_new _ _)⟩
/-- The parameter, as it lies when the law begins. -/
theorem Box.par (w : World) (x y : Int) : Box (w.alloc (.cells #[.int .i64 x, .int .i64 y] 23)) w.heap.size x y := Box.new w x y _

end EK
end Go.Proofs.YtldogjldnckdmayDoor
