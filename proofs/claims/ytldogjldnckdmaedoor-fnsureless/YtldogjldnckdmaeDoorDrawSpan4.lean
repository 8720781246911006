/-
  The draws of spans whose statements draw their order.
-/
import Derived.Test.YtldogjldnckdmaeDoorRows
import Derived.Test.YtldogjldnckdmaeDoorDrawKit
import Derived.Test.YtldogjldnckdmaeDoorDrawWalks
import Derived.Test.YtldogjldnckdmaeDoorDrawBig
import Derived.Test.YtldogjldnckdmaeDoorDrawSpan
import Derived.Test.YtldogjldnckdmaeDoorDrawSpan2
import Derived.Test.YtldogjldnckdmaeDoorDrawSpan3
import Derived.Test.YtldogjldnckdmaeDoorSpanWalks
import Derived.Test.YtldogjldnckdmaeDoorLoose2
import Derived.Test.YtldogjldnckdmaeDoorQuietTail
import Derived.RegionTactic
import Derived.WalkKit
import Derived.Below
import Derived.Lib.MinMax
namespace Go.Proofs.YtldogjldnckdmaeDoor
open Go.RowKit Go.Sort
set_option linter.unusedVariables false

namespace DW
open DK SW

/-- A world in which the reader has gone on from 'w0', so many draws being left. -/
structure Wd (k : Nat) (w0 : World) (f : Nat) where
  w : World
  rd : ∃ p, Rd w k p ∧ p + 200 * f ≤ 800000000
  tc : Tch k w0.heap.size w0 w
abbrev Cr (k : Nat) (w0 : World) : Nat → World → Prop := fun f w' => ∃ q : Wd k w0 f, w' = q.w
theorem Cr.mono {k : Nat} {w0 : World} : ∀ f w, Cr k w0 (f + 1) w → Cr k w0 f w := by
  rintro f w ⟨q, rfl⟩
  obtain ⟨p, h1, h2⟩ := q.rd
  exact ⟨⟨q.w, ⟨p, h1, by omega⟩, q.tc⟩, rfl⟩
theorem Cr.start {k p : Nat} {w0 : World} (n : Nat) (R : Rd w0 k p) (h : p + 200 * n ≤ 800000000) : Cr k w0 n { w0 with drawn := w0.drawn + 1 } :=
  ⟨⟨w0.drew, ⟨p, R.drew, h⟩, (Tch.refl _ _ _).drew⟩, rfl⟩
/-- Values of which only themselves are known. -/
def ndV (g : Nat → Option (Value → Prop)) : Nat → Option (Act → Value → World → Prop) := fun i => (g i).map fun φ _ u _ => φ u
theorem ndV_local {ops : Array Oper} (g : Nat → Option (Value → Prop)) : LQ.Local ops (ndV g) := by
  intro j Φ oj hn _ a dst v _
  unfold ndV at hn
  obtain ⟨φ, _, rfl⟩ := Option.map_eq_some_iff.1 hn
  rfl
theorem ndV_keeps {g : Nat → Option (Value → Prop)} {w w' : World} : LQ.Keeps (ndV g) w w' := by
  intro i Φ a u hn h
  unfold ndV at hn
  obtain ⟨φ, _, rfl⟩ := Option.map_eq_some_iff.1 hn
  exact h
theorem pick_loose {g : Nat → Option (Value → Prop)} {k f : Nat} {w0 : World} (q : Wd k w0 (f + 1)) (n : Int) (hn : 1 ≤ n) :
    Calls Tryd.prog 30 #[.pointer (some ⟨k, 0, none⟩), .int .i64 n] q.w fun e w'' => ∃ u, e = .returned u ∧ Cr k w0 f w'' ∧ (∃ z : Int, u = .int .i64 z ∧ 0 ≤ z ∧ z < n) ∧ LQ.Keeps (ndV g) q.w w'' := by
  obtain ⟨p, R, hp⟩ := q.rd
  refine (pick_any q.w k p n (by omega) R).mono ?_
  rintro e w1 ⟨v, rfl, v0, v1, R1, T1⟩
  exact ⟨_, rfl, ⟨⟨w1, ⟨_, R1, by omega⟩, q.tc.trans (T1.mono q.tc.size)⟩, rfl⟩, ⟨v, rfl, v0, v1 hn⟩, ndV_keeps⟩
theorem span_loose {g : Nat → Option (Value → Prop)} {k f : Nat} {w0 : World} (q : Wd k w0 (f + 1)) :
    Calls Tryd.prog 29 #[.pointer (some ⟨k, 0, none⟩)] q.w fun e w'' => ∃ u, e = .returned u ∧ Cr k w0 f w'' ∧ (∃ l h : Int, u = spV l h ∧ -1073000500 ≤ l ∧ l ≤ 1073000500 ∧ -1073000500 ≤ h ∧ h ≤ 1073000500) ∧ LQ.Keeps (ndV g) q.w w'' := by
  obtain ⟨p, R, hp⟩ := q.rd
  refine (l71Span_any q.w k p (by omega) R).mono ?_
  rintro e w1 ⟨l, h, p1, rfl, l0, l1, h0, h1, q1, R1, T1⟩
  exact ⟨_, rfl, ⟨⟨w1, ⟨_, R1, by omega⟩, q.tc.trans (T1.mono q.tc.size)⟩, rfl⟩, ⟨l, h, rfl, l0, l1, h0, h1⟩, ndV_keeps⟩
def isNum (n : Int) (u : Value) : Prop := ∃ z : Int, u = .int .i64 z ∧ 0 ≤ z ∧ z < n
def isSpan (u : Value) : Prop := ∃ l h : Int, u = spV l h ∧ -1073000500 ≤ l ∧ l ≤ 1073000500 ∧ -1073000500 ≤ h ∧ h ≤ 1073000500


end DW
end Go.Proofs.YtldogjldnckdmaeDoor
