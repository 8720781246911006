/-
  The rule of Loose2 where two operations of many values may come up at once: a tree of orders instead of one order.
-/
import Derived.Test.YtfdkpcejjcifgauDoorLoose2
namespace Go.Proofs.YtfdkpcejjcifgauDoor

namespace LQ
/-- The orders of the head: an operation of one value that waits for no one; one that is alone; two that both may come first. -/
inductive Tree where
  | nil : Tree
  | det (i : Nat) (t : Tree) : Tree
  | one (i : Nat) (t : Tree) : Tree
  | two (i : Nat) (t : Tree) (j : Nat) (u : Tree) : Tree

section
variable (P : Program) (ops : Array Oper) (md : Region.Mode) (C : Nat → World → Prop) (nd : Nat → Option (Act → Value → World → Prop)) (n : Nat)
def LexT (F : Act → List (World → Prop) → Prop) : Tree → Act → List (World → Prop) → Prop
  | .nil, a, kn => F a kn
  | .det i t, a, kn => Op P ops C nd i (LexT F t) a kn
  | .one i t, a, kn => Op P ops C nd i (LexT F t) a kn
  | .two i t j u, a, kn => Op P ops C nd i (LexT F t) a kn ∧ Op P ops C nd j (LexT F u) a kn
def orderT (g : Nat) : Tree → Nat → Array Bool → Bool
  | .nil, f, s => decide (f = 0) && Region.seqB md ops g n s
  | .det i t, f, s => decide (1 ≤ f) && ((Region.ready md ops s).contains i && (decide (i < n) && ((nd i).isNone && (Region.free md ops s i && orderT g t (f - 1) (s.setIfInBounds i true)))))
  | .one i t, f, s => decide (1 ≤ f) && (decide (Region.ready md ops s = [i]) && (decide (i < n) && orderT g t (f - 1) (s.setIfInBounds i true)))
  | .two i t j u, f, s => decide (1 ≤ f) && (decide (Region.ready md ops s = [i, j]) && (decide (i < n) && (decide (j < n) && (orderT g t (f - 1) (s.setIfInBounds i true) && orderT g u (f - 1) (s.setIfInBounds j true)))))
end

variable {P : Program} {ops : Array Oper} {md : Region.Mode} {C : Nat → World → Prop} {nd : Nat → Option (Act → Value → World → Prop)} {n : Nat}

theorem lexT {g : Nat} {F : Act → List (World → Prop) → Prop} (loc : Local ops nd) (hsel : Region.noSelect ops = true) (hs : Region.sinkB md ops n = true) (hc : Region.chainB md ops n = true) (hz : n < ops.size) :
    ∀ (t : Tree) (f : Nat) (s : Array Bool) (a : Act) (kn : List (World → Prop)), HeadInv md ops n s → orderT ops md nd n g t f s = true → LexT P ops C nd F t a kn → Any P ops md C nd n (fun s' a' kn' => Region.seqB md ops g n s' = true ∧ F a' kn') f s a kn := by
  intro t
  induction t with
  | nil =>
    intro f s a kn _ hB h
    simp only [orderT, Bool.and_eq_true, decide_eq_true_eq] at hB
    obtain ⟨rfl, hB⟩ := hB
    exact ⟨hB, h⟩
  | det i t ih =>
    intro f s a kn inv hB h
    simp only [orderT, Bool.and_eq_true, decide_eq_true_eq] at hB
    obtain ⟨hf, hr, hin, hn, hk, hB⟩ := hB
    obtain ⟨f, rfl⟩ : ∃ k, f = k + 1 := ⟨f - 1, by omega⟩
    have hr : i ∈ Region.ready md ops s := by simpa using hr
    obtain ⟨_, oi, hoi, _⟩ := mem_ready.1 hr
    have hn : nd i = none := by simpa using hn
    obtain ⟨v, hy, hK⟩ := yields_of hoi hn h
    exact first loc hoi (Region.noSelect_spec hsel) hn hs hc hz hin (fun _ _ _ hL => seqB_ready hL.1) f s a kn inv (Region.free_spec hoi hk) hr hy (ih _ _ _ _ (inv.set hr hin) hB hK)
  | one i t ih =>
    intro f s a kn inv hB h
    simp only [orderT, Bool.and_eq_true, decide_eq_true_eq] at hB
    obtain ⟨hf, hk, hin, hB⟩ := hB
    obtain ⟨f, rfl⟩ : ∃ k, f = k + 1 := ⟨f - 1, by omega⟩
    have hr : i ∈ Region.ready md ops s := by rw [hk]; simp
    refine ⟨List.ne_nil_of_mem hr, fun j hj => ?_⟩
    rw [hk] at hj
    obtain rfl : j = i := by simpa using hj
    exact ⟨hin, Op.mono (fun a' kn' h' => ih _ _ a' kn' (inv.set hr hin) hB h') h⟩
  | two i t j u ih ih' =>
    intro f s a kn inv hB h
    simp only [orderT, Bool.and_eq_true, decide_eq_true_eq] at hB
    obtain ⟨hf, hk, hin, hjn, hB, hB'⟩ := hB
    obtain ⟨f, rfl⟩ : ∃ k, f = k + 1 := ⟨f - 1, by omega⟩
    have hr : i ∈ Region.ready md ops s := by rw [hk]; simp
    have hr' : j ∈ Region.ready md ops s := by rw [hk]; simp
    refine ⟨List.ne_nil_of_mem hr, fun k hj => ?_⟩
    rw [hk] at hj
    have hj : k = i ∨ k = j := by simpa using hj
    rcases hj with rfl | rfl
    · exact ⟨hin, Op.mono (fun a' kn' h' => ih _ _ a' kn' (inv.set hr hin) hB h') h.1⟩
    · exact ⟨hjn, Op.mono (fun a' kn' h' => ih' _ _ a' kn' (inv.set hr' hjn) hB' h') h.2⟩

/-- The region's rule with a tree of orders of the head (of 'n' operations). -/
theorem regionT {id : Nat} {Q : Exit → Act → World → Prop} {a : Act} {w : World} {l : List Oper} (C : Nat → World → Prop) (nd : Nat → Option (Act → Value → World → Prop)) (n : Nat) (t : Tree) (loc : Local l.toArray nd) (hm : P.follows .mixedOrders = true)
    (hB : (Region.noSelect l.toArray && (tailB l.toArray .any n && (decide (n ≤ l.length) && orderT l.toArray .any nd n (l.length - n) t n (Array.replicate l.length false)))) = true)
    (mono : ∀ f w, C (f + 1) w → C f w) (hw : C n { w with drawn := w.drawn + 1 })
    (h : LexT P l.toArray C nd (fun a' kn => ∀ w', C 0 w' → Holds nd kn w' → wpList P l.toArray Q (l.drop n) a' w') t a []) : (Code.region id l.toArray true).wp P Q a w := by
  simp only [Bool.and_eq_true, decide_eq_true_eq] at hB
  obtain ⟨hsel, hT, hn, hord⟩ := hB
  simp only [tailB, Bool.and_eq_true, decide_eq_true_eq] at hT
  obtain ⟨hs, hc, hz⟩ := hT
  have inv : HeadInv .any l.toArray n (Array.replicate l.length false) :=
    ⟨by simp, fun j oj _ e => (by rw [getD_replicate_false] at e; cases e), fun t _ ht => getD_in (by simpa using ht) (getD_replicate_false _ _)⟩
  have hd : (l.drop n).length = l.length - n := by simp
  have H := lexT (md := .any) (g := l.length - n) loc hsel hs hc hz t n (Array.replicate l.length false) a [] inv hord h
  have G := Any.wp (Q := Q) (g := l.length - n) (c := 0) mono (fun s a' kn w' hw' hk hL => by
    have := wpAny_of_seq (md := .any) (Q' := Q) (l.drop n) n s a' w' (fun j => by simp [List.getElem?_drop]) (by rw [hd]; exact hL.1) (hL.2 w' hw' hk)
    rwa [hd] at this) _ _ _ _ { w with drawn := w.drawn + 1 } hw (fun x hx => by cases hx) H
  rw [show n + (l.length - n) = l.toArray.size by simp; omega] at G
  exact wp_region_any hm (by simpa using G)

/-- One step of the walk. -/
theorem stepDT {F : Act → List (World → Prop) → Prop} {i : Nat} {t : Tree} {a : Act} {kn : List (World → Prop)} {o : Oper} (hi : ops[i]? = some o) (hn : nd i = none)
    (h : ∀ N : Act → List (World → Prop) → Prop, (∀ a kn, LexT P ops C nd F t a kn → N a kn) → if Region.wanted o (yielded ops a.tmps) then ∃ v, (∀ f w, C (f + 1) w → Holds nd kn w → detUpon P C nd f w v ((execOp a.eval o).run P w)) ∧ N (a.put o.dst v) kn else N (a.put o.dst undef) kn) : LexT P ops C nd F (.det i t) a kn := by
  unfold LexT Op
  simp only [hi, hn]
  exact h _ fun _ _ h => h
theorem opN {F : Act → List (World → Prop) → Prop} {i : Nat} {t : Tree} {a : Act} {kn : List (World → Prop)} {o : Oper} {Φ : Act → Value → World → Prop} (hi : ops[i]? = some o) (hn : nd i = some Φ)
    (h : ∀ N : Act → List (World → Prop) → Prop, (∀ a kn, LexT P ops C nd F t a kn → N a kn) → if Region.wanted o (yielded ops a.tmps) then (∀ f w, C (f + 1) w → Holds nd kn w → ndUpon P C nd f w (Φ a) ((execOp a.eval o).run P w)) ∧ ∀ u, (∃ w, Φ a u w) → N (a.put o.dst u) (Φ a u :: kn) else N (a.put o.dst undef) kn) : Op P ops C nd i (LexT P ops C nd F t) a kn := by
  unfold Op
  simp only [hi, hn]
  exact h _ fun _ _ h => h
theorem stepOne {F : Act → List (World → Prop) → Prop} {i : Nat} {t : Tree} {a : Act} {kn : List (World → Prop)} (h : Op P ops C nd i (LexT P ops C nd F t) a kn) : LexT P ops C nd F (.one i t) a kn := h
theorem stepTwo {F : Act → List (World → Prop) → Prop} {i j : Nat} {t u : Tree} {a : Act} {kn : List (World → Prop)} (h : Op P ops C nd i (LexT P ops C nd F t) a kn) (k : Op P ops C nd j (LexT P ops C nd F u) a kn) : LexT P ops C nd F (.two i t j u) a kn := ⟨h, k⟩
theorem lexEndT {F : Act → List (World → Prop) → Prop} {a : Act} {kn : List (World → Prop)} (h : F a kn) : LexT P ops C nd F .nil a kn := h

end LQ
end Go.Proofs.YtfdkpcejjcifgauDoor
