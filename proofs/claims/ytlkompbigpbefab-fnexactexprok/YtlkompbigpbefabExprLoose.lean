/-
  The region at the foot of every exact law of trees: one copied, and held against another one.
-/
import Derived.Test.YtlkompbigpbefabExprEq
import Derived.Test.YtlkompbigpbefabLoose2
namespace Go.Proofs.Ytlkompbigpbefab
open Go.RowKit Go.Sort
set_option linter.unusedVariables false
set_option maxRecDepth 8000
namespace EL
open EM SK ER
/-- Whatever comes of the others ends in 'Below'. -/
abbrev Cl (w : World) : Nat → World → Prop := fun _ w' => ∃ p : Regrown, w' = grow (redrawn w p.d) p.os
theorem Cl.start (w : World) (n : Nat) : Cl w n { w with drawn := w.drawn + 1 } := ⟨⟨w.drawn + 1, #[]⟩, by rw [grow_empty]; rfl⟩
/-- Operation 'm' yields a tree. -/
def ndX (m : Nat) (k a c : Int) (t : F) : Nat → Option (Act → Value → World → Prop) := fun i => if i = m then some (fun _ u w => ∃ x, u = exV k a c x ∧ ER.Kids w t x) else none
theorem ndX_local {ops : Array Oper} (m : Nat) (k a c : Int) (t : F) : LQ.Local ops (ndX m k a c t) := by
  intro j Φ oj hn _ a dst v _
  unfold ndX at hn
  split at hn
  · cases hn; rfl
  · cases hn
theorem keeps {m : Nat} {k a c : Int} {t : F} {w w' : World} (h : Below w.heap.size w w') : LQ.Keeps (ndX m k a c t) w w' := by
  intro i Φ b u hn hu
  unfold ndX at hn
  split at hn
  · cases hn
    obtain ⟨x, e, hx⟩ := hu
    exact ⟨x, e, hx.kept h⟩
  · cases hn
theorem copy {k a c : Int} {t : F} {u : Value} {w : World} (hk : ER.Kids w t u) (hc : t.cnt ≤ 1048576) (m : Nat) (d : Nat) (os : Array Obj) :
    Calls Try.prog 14 #[exV k a c u] (grow (redrawn w d) os) fun e w'' => ∃ v, e = .returned v ∧ (∃ p : Regrown, w'' = grow (redrawn w p.d) p.os) ∧ (∃ x, v = exV k a c x ∧ ER.Kids w'' t x) ∧ LQ.Keeps (ndX m k a c t) (grow (redrawn w d) os) w'' :=
  (toExpr_any k a c t u _ (hk.kept (below_regrown w d os)) hc).mono fun e w'' ⟨x, he, G, B⟩ => ⟨_, he, regrown_of_below (below1 (below_regrown w d os) B), ⟨x, rfl, G.kids⟩, keeps B⟩
theorem same {k a c : Int} {t : F} {x y : Value} {w : World} (hk : ER.Kids w t x) (hc : t.cnt ≤ 1048576) (m : Nat) (d : Nat) (os : Array Obj) (hy : ER.Kids (grow (redrawn w d) os) t y) :
    Calls Try.prog 15 #[exV k a c x, exV k a c y] (grow (redrawn w d) os) fun e w'' => e = .returned (.bool true) ∧ (∃ p : Regrown, w'' = grow (redrawn w p.d) p.os) ∧ LQ.Keeps (ndX m k a c t) (grow (redrawn w d) os) w'' :=
  (eqExpr_same k a c t x y _ (hk.kept (below_regrown w d os)) hy hc).mono fun e w'' ⟨he, B⟩ => ⟨he, regrown_of_below (below1 (below_regrown w d os) B), keeps B⟩
end EL
end Go.Proofs.Ytlkompbigpbefab
