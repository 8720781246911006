/-
  What the draws of spans return: two numbers, not great, whatever the code.
-/
import Derived.Test.YtldogjldnckdmaeDoorRows
import Derived.Test.YtldogjldnckdmaeDoorDrawKit
import Derived.Test.YtldogjldnckdmaeDoorDrawWalks
import Derived.Test.YtldogjldnckdmaeDoorDrawBig
import Derived.Test.YtldogjldnckdmaeDoorDrawNum
import Derived.Test.YtldogjldnckdmaeDoorSpanWalks
import Derived.WalkKit
import Derived.Below
import Derived.Lib.MinMax
namespace Go.Proofs.YtldogjldnckdmaeDoor
open Go.RowKit
set_option linter.unusedVariables false

namespace DW
open DK SW

theorem Box.tch {k n : Nat} {w w' : World} {b : Nat} {x y : Int} (h : Box w b x y) (t : Tch k n w w') (hb : b < n) (hk : b ≠ k) : Box w' b x y :=
  ⟨(t.cell hb hk).trans h.c0, (t.cell hb hk).trans h.c1, (t.frozen hb hk).trans h.f0, (t.frozen hb hk).trans h.f1⟩
theorem Rd.setHi {w : World} {k p b o : Nat} {v : Value} (h : Rd w k p) (hb : k < b) : Rd (w.setCell ⟨b, o, none⟩ v) k p := by
  have e : ∀ j, j ≤ k → (w.setCell ⟨b, o, none⟩ v).heap[j]? = w.heap[j]? := fun j hj => Below.heap_setCell _ _ _ _ (by simp; omega)
  obtain ⟨a, len, cap, h0, h1, hf, hl, hB⟩ := h
  refine ⟨a, len, cap, (World.cell?_of_block (w := w) (e k (Nat.le_refl _))).trans h0, (World.cell?_of_block (w := w) (e k (Nat.le_refl _))).trans h1, (World.frozen?_of_block (w := w) (e k (Nat.le_refl _))).trans hf, hl, ?_⟩
  rcases hB with rfl | ⟨c, off, rfl, hc, hz⟩
  · exact .inl rfl
  · refine .inr ⟨c, off, rfl, hc, fun i hi => ?_⟩
    obtain ⟨z, z0, z1, hcell⟩ := hz i hi
    exact ⟨z, z0, z1, (World.cell?_of_block (w := w) (e c (by omega))).trans hcell⟩
theorem Tch.setHi {k n b o : Nat} {a w : World} {v : Value} (h : Tch k n a w) (hb : n ≤ b) : Tch k n a (w.setCell ⟨b, o, none⟩ v) :=
  h.trans ⟨rfl, rfl, rfl, by simp [World.setCell], fun j hj hk => Below.heap_setCell _ _ _ _ (by simp; omega)⟩



end DW
end Go.Proofs.YtldogjldnckdmaeDoor
