/-
  Trees in memory of the call's own: no block of them lies below a base; what keeps them.
-/
import Derived.Test.YtlkompbigpbefabExprOpen
import Derived.Test.YtlkompbigpbefabExprSz
import Derived.Lib.SmallJoins
namespace Go.Proofs.Ytlkompbigpbefab
open Go.RowKit Go.Joins
set_option linter.unusedVariables false
set_option maxRecDepth 8000
namespace ER
open EM SK
/-- The blocks from the base on that lay there lie as they lay. -/
def Keeps (base : Nat) (w w' : World) : Prop := ∀ k, base ≤ k → k < w.heap.size → w'.heap[k]? = w.heap[k]?
theorem Keeps.cell {base : Nat} {w w' : World} (h : Keeps base w w') {b o : Nat} {v : Value} (hb : base ≤ b) (c : w.cell? ⟨b, o, none⟩ = some v) : w'.cell? ⟨b, o, none⟩ = some v :=
  (World.cell?_of_block (w := w) (h b hb (cell_lt c))).trans c
theorem keeps_below {base : Nat} {w w' : World} (h : Below w.heap.size w w') : Keeps base w w' := fun k _ hk => h.block k hk
theorem keeps_set {base : Nat} (w : World) {b o : Nat} {v : Value} (hb : b < base) : Keeps base w (w.setCell ⟨b, o, none⟩ v) := fun k hk _ => Below.heap_setCell _ _ _ _ (by show k ≠ b; omega)
theorem Keeps.trans {base : Nat} {w w' w'' : World} (h : Keeps base w w') (g : Keeps base w' w'') (hs : w.heap.size ≤ w'.heap.size) : Keeps base w w'' := fun k hk hl => (g k hk (by omega)).trans (h k hk hl)
/-- Nodes beside each other, their Kids' blocks not below the base. -/
def RowG (base : Nat) (w : World) : F → Nat → Nat → Prop
  | .nil, _, _ => True
  | .cons k a c t r, b, o => (w.cell? ⟨b, o, none⟩ = some (.int .i64 k) ∧ w.cell? ⟨b, o + 1, none⟩ = some (.int .i64 a) ∧ w.cell? ⟨b, o + 2, none⟩ = some (.int .i64 c)) ∧
      (∃ p n cap, w.cell? ⟨b, o + 3, none⟩ = some (.slice p n cap) ∧ n = t.len ∧ (t.len = 0 ∨ ∃ b' o', p = some ⟨b', o', none⟩ ∧ base ≤ b' ∧ RowG base w t b' o')) ∧ RowG base w r b (o + 4)
def KidsG (base : Nat) (w : World) (t : F) (v : Value) : Prop := ∃ p n cap, v = .slice p n cap ∧ n = t.len ∧ (t.len = 0 ∨ ∃ b' o', p = some ⟨b', o', none⟩ ∧ base ≤ b' ∧ RowG base w t b' o')
theorem RowG.row {base : Nat} {w : World} : ∀ {t : F} {b o : Nat}, RowG base w t b o → Row w t b o
  | .nil, _, _, _ => trivial
  | .cons k a c t r, b, o, ⟨h1, ⟨p, n, cap, h4, h5, h6⟩, h7⟩ => by
    refine ⟨h1, ⟨p, n, cap, h4, h5, ?_⟩, RowG.row h7⟩
    rcases h6 with h6 | ⟨b', o', e, _, h6⟩
    · exact .inl h6
    · exact .inr ⟨b', o', e, RowG.row h6⟩
theorem KidsG.kids {base : Nat} {w : World} {t : F} {v : Value} (h : KidsG base w t v) : Kids w t v := by
  obtain ⟨p, n, cap, rfl, h5, h6⟩ := h
  refine ⟨p, n, cap, rfl, h5, ?_⟩
  rcases h6 with h6 | ⟨b', o', e, _, h6⟩
  · exact .inl h6
  · exact .inr ⟨b', o', e, h6.row⟩
theorem RowG.keep {base base' : Nat} {w w' : World} (h : Keeps base w w') (hb : base ≤ base') : ∀ {t : F} {b o : Nat}, base ≤ b → RowG base' w t b o → RowG base' w' t b o
  | .nil, _, _, _, _ => trivial
  | .cons k a c t r, b, o, hbb, ⟨⟨h1, h2, h3⟩, ⟨p, n, cap, h4, h5, h6⟩, h7⟩ => by
    refine ⟨⟨h.cell hbb h1, h.cell hbb h2, h.cell hbb h3⟩, ⟨p, n, cap, h.cell hbb h4, h5, ?_⟩, RowG.keep h hb hbb h7⟩
    rcases h6 with h6 | ⟨b', o', e, hl, h6⟩
    · exact .inl h6
    · exact .inr ⟨b', o', e, hl, RowG.keep h hb (by omega) h6⟩
theorem KidsG.keep {base base' : Nat} {w w' : World} {t : F} {v : Value} (h : Keeps base w w') (hb : base ≤ base') (k : KidsG base' w t v) : KidsG base' w' t v := by
  obtain ⟨p, n, cap, rfl, h5, h6⟩ := k
  refine ⟨p, n, cap, rfl, h5, ?_⟩
  rcases h6 with h6 | ⟨b', o', e, hl, h6⟩
  · exact .inl h6
  · exact .inr ⟨b', o', e, hl, RowG.keep h hb (by omega) h6⟩
theorem RowG.weak {base base' : Nat} {w : World} (hb : base ≤ base') : ∀ {t : F} {b o : Nat}, RowG base' w t b o → RowG base w t b o
  | .nil, _, _, _ => trivial
  | .cons k a c t r, b, o, ⟨h1, ⟨p, n, cap, h4, h5, h6⟩, h7⟩ => by
    refine ⟨h1, ⟨p, n, cap, h4, h5, ?_⟩, RowG.weak hb h7⟩
    rcases h6 with h6 | ⟨b', o', e, hl, h6⟩
    · exact .inl h6
    · exact .inr ⟨b', o', e, by omega, RowG.weak hb h6⟩
theorem KidsG.weak {base base' : Nat} {w : World} {t : F} {v : Value} (hb : base ≤ base') (k : KidsG base' w t v) : KidsG base w t v := by
  obtain ⟨p, n, cap, rfl, h5, h6⟩ := k
  refine ⟨p, n, cap, rfl, h5, ?_⟩
  rcases h6 with h6 | ⟨b', o', e, hl, h6⟩
  · exact .inl h6
  · exact .inr ⟨b', o', e, by omega, RowG.weak hb h6⟩
/-- The i-th node. -/
def nth : F → Nat → Option (Int × Int × Int × F)
  | .nil, _ => none
  | .cons k a c s _, 0 => some (k, a, c, s)
  | .cons _ _ _ _ r, i + 1 => nth r i
/-- A node lies at this place. -/
def NodeG (base : Nat) (w : World) (b o : Nat) (x : Int × Int × Int × F) : Prop :=
  (w.cell? ⟨b, o, none⟩ = some (.int .i64 x.1) ∧ w.cell? ⟨b, o + 1, none⟩ = some (.int .i64 x.2.1) ∧ w.cell? ⟨b, o + 2, none⟩ = some (.int .i64 x.2.2.1)) ∧ ∃ v, w.cell? ⟨b, o + 3, none⟩ = some v ∧ KidsG base w x.2.2.2 v
theorem rowG_of {base : Nat} {w : World} : ∀ (t : F) (b o : Nat), (∀ i x, nth t i = some x → NodeG base w b (o + i * 4) x) → RowG base w t b o
  | .nil, _, _, _ => trivial
  | .cons k a c s r, b, o, h => by
    obtain ⟨h1, v, h4, p, n, cap, rfl, h5, h6⟩ := h 0 (k, a, c, s) rfl
    rw [Nat.zero_mul, Nat.add_zero] at h1 h4
    refine ⟨h1, ⟨p, n, cap, h4, h5, h6⟩, rowG_of r b (o + 4) fun i x hx => ?_⟩
    have := h (i + 1) x hx
    rw [show o + (i + 1) * 4 = o + 4 + i * 4 by omega] at this
    exact this
theorem nth_lt : ∀ (t : F) (i : Nat) (x : Int × Int × Int × F), nth t i = some x → i < t.len
  | .nil, _, _, h => by simp [nth] at h
  | .cons _ _ _ _ r, 0, _, _ => by simp only [F.len]; omega
  | .cons _ _ _ _ r, i + 1, x, h => by have := nth_lt r i x h; simp only [F.len]; omega
/-- Four cells beside each other of a block of the call's own are set. -/
def set4 (w : World) (g i : Nat) (v0 v1 v2 v3 : Value) : World := (((w.setCell ⟨g, i, none⟩ v0).setCell ⟨g, i + 1, none⟩ v1).setCell ⟨g, i + 2, none⟩ v2).setCell ⟨g, i + 3, none⟩ v3
theorem set4_block {w : World} {g i : Nat} {cur : Array Value} {t : TypeId} (h : w.heap[g]? = some (.cells cur t (0, 0))) (hi : i + 3 < cur.size) (v0 v1 v2 v3 : Value) :
    ∃ cur', (set4 w g i v0 v1 v2 v3).heap[g]? = some (.cells cur' t (0, 0)) ∧ cur'.size = cur.size ∧ (∀ o, o < i ∨ i + 4 ≤ o → cur'[o]? = cur[o]?) ∧ cur'[i]? = some v0 ∧ cur'[i + 1]? = some v1 ∧ cur'[i + 2]? = some v2 ∧ cur'[i + 3]? = some v3 := by
  refine ⟨_, block_setCell (block_setCell (block_setCell (block_setCell h v0) v1) v2) v3, by simp, fun o ho => ?_, ?_, ?_, ?_, ?_⟩
  · rw [Array.getElem?_setIfInBounds_ne (by omega), Array.getElem?_setIfInBounds_ne (by omega), Array.getElem?_setIfInBounds_ne (by omega), Array.getElem?_setIfInBounds_ne (by omega)]
  · rw [Array.getElem?_setIfInBounds_ne (by omega), Array.getElem?_setIfInBounds_ne (by omega), Array.getElem?_setIfInBounds_ne (by omega), Array.getElem?_setIfInBounds_self_of_lt (by omega)]
  · rw [Array.getElem?_setIfInBounds_ne (by omega), Array.getElem?_setIfInBounds_ne (by omega), Array.getElem?_setIfInBounds_self_of_lt (by simp; omega)]
  · rw [Array.getElem?_setIfInBounds_ne (by omega), Array.getElem?_setIfInBounds_self_of_lt (by simp; omega)]
  · rw [Array.getElem?_setIfInBounds_self_of_lt (by simp; omega)]
theorem set4_other (w : World) {g i b : Nat} (v0 v1 v2 v3 : Value) (hb : b ≠ g) : (set4 w g i v0 v1 v2 v3).heap[b]? = w.heap[b]? := by
  unfold set4
  rw [Below.heap_setCell _ _ _ _ hb, Below.heap_setCell _ _ _ _ hb, Below.heap_setCell _ _ _ _ hb, Below.heap_setCell _ _ _ _ hb]
theorem set4_size (w : World) (g i : Nat) (v0 v1 v2 v3 : Value) : (set4 w g i v0 v1 v2 v3).heap.size = w.heap.size := by simp [set4, World.setCell]
theorem set4_below {w0 w : World} {base g i : Nat} (B : Below base w0 w) (hg : base ≤ g) (v0 v1 v2 v3 : Value) : Below base w0 (set4 w g i v0 v1 v2 v3) :=
  (((B.setCell hg _).setCell hg _).setCell hg _).setCell hg _
end ER
end Go.Proofs.Ytlkompbigpbefab
