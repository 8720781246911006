/-
  The lexical walk of a drawn region, the rest of it kept behind a structure: so that no step reckons it out ahead.
-/
import Derived.Test.YtlkompbigpbefabRows
import Derived.Lib.QuietBelow
namespace Go.Proofs.Ytlkompbigpbefab
open Go.RowKit Go.Sort
namespace KS
structure Kept (p : Prop) : Prop where
  out : p
theorem step {P : Program} {ops : Array Oper} {C : World → Prop} {Q : Act → Prop} {a : Act} {o : Oper} {rest : List Oper}
    (h : ∀ K : Act → Prop, (∀ a, Kept (wpQuiet P ops C Q rest a) → K a) → if Region.wanted o (yielded ops a.tmps) then o.quiet P a C K else K (a.put o.dst undef)) : Kept (wpQuiet P ops C Q (o :: rest) a) :=
  ⟨h _ fun _ k => k.out⟩
theorem nil {P : Program} {ops : Array Oper} {C : World → Prop} {Q : Act → Prop} {a : Act} (h : Q a) : Kept (wpQuiet P ops C Q [] a) := ⟨h⟩
theorem region {P : Program} {id : Nat} {Q : Exit → Act → World → Prop} {a : Act} {w : World} {l : List Oper} (hm : P.follows .mixedOrders = true) (hB : Region.lexB .any l.toArray = true)
    (h : Kept (wpQuiet P l.toArray (fun w' => ∃ p : Regrown, w' = grow (redrawn w p.d) p.os) (fun a' => ∀ w', (∃ p : Regrown, w' = grow (redrawn w p.d) p.os) → Q .normal a' w') l a)) : (Code.region id l.toArray true).wp P Q a w :=
  wp_region_quiet_below hm hB h.out
end KS
end Go.Proofs.Ytlkompbigpbefab
