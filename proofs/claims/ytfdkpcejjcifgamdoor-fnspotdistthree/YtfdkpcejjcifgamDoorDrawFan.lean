/-
  The draws of fans: a fan, a fan and an angle, a fan, parts and a way.
-/
import Derived.Test.YtfdkpcejjcifgamDoorRows
import Derived.Test.YtfdkpcejjcifgamDoorDrawKit
import Derived.Test.YtfdkpcejjcifgamDoorDrawWalks
import Derived.Test.YtfdkpcejjcifgamDoorDrawBig
import Derived.Test.YtfdkpcejjcifgamDoorDrawSine
import Derived.Test.YtfdkpcejjcifgamDoorSineKit
import Derived.Test.YtfdkpcejjcifgamDoorLoose2
import Derived.Test.YtfdkpcejjcifgamDoorLoose3
import Derived.WalkKit
import Derived.Below
namespace Go.Proofs.YtfdkpcejjcifgamDoor
open Go.RowKit Go.Sort
set_option linter.unusedVariables false

namespace DF
open DK DW SK

theorem boxTch {k n : Nat} {w w' : World} {b : Nat} {x y : Int} (h : SK.Box w b x y) (t : Tch k n w w') (hb : b < n) (hk : b ≠ k) : SK.Box w' b x y :=
  ⟨(t.cell hb hk).trans h.c0, (t.cell hb hk).trans h.c1, (t.frozen hb hk).trans h.f0, (t.frozen hb hk).trans h.f1⟩
theorem rdHi {w : World} {k p b o : Nat} {v : Value} (h : Rd w k p) (hb : k < b) : Rd (w.setCell ⟨b, o, none⟩ v) k p := by
  have e : ∀ j, j ≤ k → (w.setCell ⟨b, o, none⟩ v).heap[j]? = w.heap[j]? := fun j hj => Below.heap_setCell _ _ _ _ (by simp; omega)
  obtain ⟨a, len, cap, h0, h1, hf, hl, hB⟩ := h
  refine ⟨a, len, cap, (World.cell?_of_block (w := w) (e k (Nat.le_refl _))).trans h0, (World.cell?_of_block (w := w) (e k (Nat.le_refl _))).trans h1, (World.frozen?_of_block (w := w) (e k (Nat.le_refl _))).trans hf, hl, ?_⟩
  rcases hB with rfl | ⟨c, off, rfl, hc, hz⟩
  · exact .inl rfl
  · refine .inr ⟨c, off, rfl, hc, fun i hi => ?_⟩
    obtain ⟨z, z0, z1, hcell⟩ := hz i hi
    exact ⟨z, z0, z1, (World.cell?_of_block (w := w) (e c (by omega))).trans hcell⟩
theorem tchHi {k n b o : Nat} {a w : World} {v : Value} (h : Tch k n a w) (hb : n ≤ b) : Tch k n a (w.setCell ⟨b, o, none⟩ v) :=
  h.trans ⟨rfl, rfl, rfl, by simp [World.setCell], fun j hj hk => Below.heap_setCell _ _ _ _ (by simp; omega)⟩
def num8 (u : Value) : Prop := ∃ z : Int, u = .int .i64 z ∧ 0 ≤ z ∧ z < 8
theorem rdBox {w : World} {k p b : Nat} {x y : Int} (h : Rd w k p) (X : SK.Box w b x y) (hb : b ≠ k) (x' y' : Int) : Rd ((w.setCell ⟨b, 0, none⟩ (.int .i64 x')).setCell ⟨b, 1, none⟩ (.int .i64 y')) k p := by
  obtain ⟨a, len, cap, h0, h1, hf, hl, hB⟩ := h
  have far : ∀ q : Addr, q ≠ ⟨b, 0, none⟩ → q ≠ ⟨b, 1, none⟩ → ((w.setCell ⟨b, 0, none⟩ (.int .i64 x')).setCell ⟨b, 1, none⟩ (.int .i64 y')).cell? q = w.cell? q := fun q n0 n1 => by
    rw [World.cell?_setCell_other _ _ _ _ (Ne.symm n1), World.cell?_setCell_other _ _ _ _ (Ne.symm n0)]
  have nk : ∀ o o' : Nat, (⟨k, o, none⟩ : Addr) ≠ ⟨b, o', none⟩ := fun o o' e => hb (congrArg Addr.block e).symm
  have eh : ((w.setCell ⟨b, 0, none⟩ (.int .i64 x')).setCell ⟨b, 1, none⟩ (.int .i64 y')).heap[k]? = w.heap[k]? := by
    rw [Below.heap_setCell _ _ _ _ (by simp; omega), Below.heap_setCell _ _ _ _ (by simp; omega)]
  refine ⟨a, len, cap, (far _ (nk _ _) (nk _ _)).trans h0, (far _ (nk _ _) (nk _ _)).trans h1, (World.frozen?_of_block (w := w) eh).trans hf, hl, ?_⟩
  rcases hB with rfl | ⟨c, off, rfl, hc, hz⟩
  · exact .inl rfl
  · refine .inr ⟨c, off, rfl, hc, fun i hi => ?_⟩
    obtain ⟨z, z0, z1, hcell⟩ := hz i hi
    refine ⟨z, z0, z1, (far _ (fun e => ?_) (fun e => ?_)).trans hcell⟩
    · rw [e, X.c0] at hcell; cases hcell
    · rw [e, X.c1] at hcell; cases hcell
end DF
end Go.Proofs.YtfdkpcejjcifgamDoor
