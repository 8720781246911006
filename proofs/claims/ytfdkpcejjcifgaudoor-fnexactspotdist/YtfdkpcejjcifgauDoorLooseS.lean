/-
  The rule for drawn regions at 'x, ok := f(..)': the one block that the statement makes, and the store into it; all else ends in 'Below'.
-/
import Derived.Test.YtfdkpcejjcifgauDoorSineKit
import Derived.Test.YtfdkpcejjcifgauDoorLoose2
import Derived.WalkKit
import Derived.Below
import Derived.Lib.QuietBelow
namespace Go.Proofs.YtfdkpcejjcifgauDoor
open Go.RowKit Go.Sort
set_option linter.unusedVariables false
namespace LS
open SK

abbrev Cl (w : World) : Nat → World → Prop := fun _ w' => ∃ p : Regrown, w' = grow (redrawn w p.d) p.os
theorem Cl.start (w : World) (n : Nat) : Cl w n { w with drawn := w.drawn + 1 } := ⟨⟨w.drawn + 1, #[]⟩, by rw [grow_empty]; rfl⟩
/-- Operation 'm' makes a block, its address goes to 'slot'; operation 'm + 1' stores there. -/
def ndTwo (base m slot : Nat) (lo hi : Int) : Nat → Option (Act → Value → World → Prop) := fun i =>
  if i = m then some (fun _ u w => ∃ b, u = .pointer (some ⟨b, 0, none⟩) ∧ base ≤ b ∧ ∃ x y, Box w b x y)
  else if i = m + 1 then some (fun a _ w => ∃ b, a.tmps.getD slot undef = .pointer (some ⟨b, 0, none⟩) ∧ base ≤ b ∧ Box w b lo hi) else none
theorem ndTwo_local {ops : Array Oper} {base m slot : Nat} {lo hi : Int} (h : ((ops[m + 1]?).any fun o => (o.looksAt ops).contains slot) = true) : LQ.Local ops (ndTwo base m slot lo hi) := by
  intro j Φ oj hn hj a dst v hd
  unfold ndTwo at hn
  split at hn
  · cases hn; rfl
  · split at hn
    · rename_i e
      subst e
      cases hn
      rw [hj] at h
      have hs : slot ∈ oj.looksAt ops := by simpa using h
      have e : (a.put dst v).tmps.getD slot undef = a.tmps.getD slot undef := by
        cases dst with
        | none => rfl
        | some d =>
          have hne : d ≠ slot := fun e => hd.1 d rfl (e ▸ hs)
          simp [Act.put, Array.getElem?_setIfInBounds_ne hne]
      funext _ w
      simp only [e]
    · cases hn
theorem keeps {base m slot : Nat} {lo hi : Int} {w w' : World} (h : Below w.heap.size w w') : LQ.Keeps (ndTwo base m slot lo hi) w w' := by
  intro i Φ a u hi hΦ
  unfold ndTwo at hi
  split at hi
  · cases hi
    obtain ⟨b, e, hb, x, y, X⟩ := hΦ
    exact ⟨b, e, hb, x, y, X.kept h⟩
  · split at hi
    · cases hi
      obtain ⟨b, e, hb, X⟩ := hΦ
      exact ⟨b, e, hb, X.kept h⟩
    · cases hi
theorem keeps_set {base m slot : Nat} {lo hi x y : Int} {w : World} {b : Nat} (X : Box w b x y) : LQ.Keeps (ndTwo base m slot lo hi) w ((w.setCell ⟨b, 0, none⟩ (.int .i64 lo)).setCell ⟨b, 1, none⟩ (.int .i64 hi)) := by
  have other : ∀ c x' y', c ≠ b → Box w c x' y' → Box ((w.setCell ⟨b, 0, none⟩ (.int .i64 lo)).setCell ⟨b, 1, none⟩ (.int .i64 hi)) c x' y' := fun c x' y' hc Z => (Z.apart (Ne.symm hc) _).apart (Ne.symm hc) _
  intro i Φ a u hi hΦ
  unfold ndTwo at hi
  split at hi
  · cases hi
    obtain ⟨c, e, hc, x', y', Z⟩ := hΦ
    by_cases hcb : c = b
    · exact ⟨c, e, hc, lo, hi, hcb ▸ X.set lo hi⟩
    · exact ⟨c, e, hc, x', y', other c x' y' hcb Z⟩
  · split at hi
    · cases hi
      obtain ⟨c, e, hc, Z⟩ := hΦ
      by_cases hcb : c = b
      · exact ⟨c, e, hc, hcb ▸ X.set lo hi⟩
      · exact ⟨c, e, hc, other c lo hi hcb Z⟩
    · cases hi
theorem of_below {f : FuncId} {args : Array Value} {w : World} {d : Nat} {os : Array Obj} {v : Value} {base m slot : Nat} {lo hi : Int}
    (h : Calls Tryd.prog f args (grow (redrawn w d) os) fun e w' => e = .returned v ∧ Below (grow (redrawn w d) os).heap.size (grow (redrawn w d) os) w') :
    Calls Tryd.prog f args (grow (redrawn w d) os) fun e w'' => e = .returned v ∧ (∃ p : Regrown, w'' = grow (redrawn w p.d) p.os) ∧ LQ.Keeps (ndTwo base m slot lo hi) (grow (redrawn w d) os) w'' :=
  h.mono fun _ _ ⟨he, hb⟩ => ⟨he, regrown_of_below (below1 (below_regrown w d os) hb), keeps hb⟩
theorem alloc (w : World) (d : Nat) (os : Array Obj) (m slot : Nat) (lo hi : Int) (t : TypeId) (n : Nat) (hn : n = (grow (redrawn w d) os).heap.size) : (∃ p : Regrown, (grow (redrawn w d) os).alloc (.cells #[.int .i64 0, .int .i64 0] t) = grow (redrawn w p.d) p.os) ∧
    (∃ b, Value.pointer (some ⟨n, 0, none⟩) = .pointer (some ⟨b, 0, none⟩) ∧ w.heap.size ≤ b ∧ ∃ x y, Box ((grow (redrawn w d) os).alloc (.cells #[.int .i64 0, .int .i64 0] t)) b x y) ∧
    LQ.Keeps (ndTwo w.heap.size m slot lo hi) (grow (redrawn w d) os) ((grow (redrawn w d) os).alloc (.cells #[.int .i64 0, .int .i64 0] t)) :=
  ⟨regrown_of_below (below1 (below_regrown w d os) (below_new _ _)), ⟨_, rfl, hn ▸ (below_regrown w d os).size, 0, 0, hn ▸ Box.new _ 0 0 t⟩, keeps (below_new _ _)⟩
theorem store {w : World} {d : Nat} {os : Array Obj} {m slot b : Nat} {lo hi x y : Int} {a : Act} (hb : w.heap.size ≤ b) (ha : a.tmps.getD slot undef = .pointer (some ⟨b, 0, none⟩)) (X : Box (grow (redrawn w d) os) b x y) :
    (∃ p : Regrown, ((grow (redrawn w d) os).setCell ⟨b, 0, none⟩ (.int .i64 lo)).setCell ⟨b, 1, none⟩ (.int .i64 hi) = grow (redrawn w p.d) p.os) ∧
    (∃ c, a.tmps.getD slot undef = .pointer (some ⟨c, 0, none⟩) ∧ w.heap.size ≤ c ∧ Box (((grow (redrawn w d) os).setCell ⟨b, 0, none⟩ (.int .i64 lo)).setCell ⟨b, 1, none⟩ (.int .i64 hi)) c lo hi) ∧
    LQ.Keeps (ndTwo w.heap.size m slot lo hi) (grow (redrawn w d) os) (((grow (redrawn w d) os).setCell ⟨b, 0, none⟩ (.int .i64 lo)).setCell ⟨b, 1, none⟩ (.int .i64 hi)) :=
  ⟨regrown_of_below (below_set2 (below_regrown w d os) hb _ _), ⟨b, ha, hb, X.set lo hi⟩, keeps_set X⟩

theorem store1 {w : World} {d : Nat} {os : Array Obj} {m slot b : Nat} {lo hi x y : Int} (hb : w.heap.size ≤ b) (X : Box (grow (redrawn w d) os) b x y) :
    (∃ p : Regrown, ((grow (redrawn w d) os).setCell ⟨b, 0, none⟩ (.int .i64 lo)).setCell ⟨b, 1, none⟩ (.int .i64 hi) = grow (redrawn w p.d) p.os) ∧
    Box (((grow (redrawn w d) os).setCell ⟨b, 0, none⟩ (.int .i64 lo)).setCell ⟨b, 1, none⟩ (.int .i64 hi)) b lo hi ∧
    LQ.Keeps (ndTwo w.heap.size m slot lo hi) (grow (redrawn w d) os) (((grow (redrawn w d) os).setCell ⟨b, 0, none⟩ (.int .i64 lo)).setCell ⟨b, 1, none⟩ (.int .i64 hi)) :=
  ⟨regrown_of_below (below_set2 (below_regrown w d os) hb _ _), X.set lo hi, keeps_set X⟩

end LS
end Go.Proofs.YtfdkpcejjcifgauDoor
