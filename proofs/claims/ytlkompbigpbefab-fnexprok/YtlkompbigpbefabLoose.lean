/-
  A region that draws its order, some of whose operations yield a value that hangs on the order (a new block; a draw): what is known of such a value is a predicate that no later operation breaks. The others yield one value in every world of a class. A given order of the head serves every order; the last operations wait for all of the head, one behind the other.
-/
import Derived.Test.YtlkompbigpbefabRows
import Derived.Deep.Quiet
import Derived.StillTail
namespace Go.Proofs.Ytlkompbigpbefab

namespace LR
section
variable (P : Program) (ops : Array Oper) (md : Region.Mode) (C : Nat → World → Prop) (nd : Nat → Option (Value → World → Prop)) (n : Nat)

/-- What was known of values stays known. -/
def Keeps (w w' : World) : Prop := ∀ i Φ u, nd i = some Φ → Φ u w → Φ u w'
def Holds (kn : List (Nat × Value)) (w : World) : Prop := ∀ x ∈ kn, ∀ Φ, nd x.1 = some Φ → Φ x.2 w
def detUpon (f : Nat) (w : World) (v : Value) : Result Next → Prop
  | .ok (.value u) w' => w' = w ∧ u = v
  | .ok .skip w' => w' = w ∧ v = undef
  | .ok (.enter g args) w' => w' = w ∧ Calls P g args w fun e w'' => e = .returned v ∧ C f w'' ∧ Keeps nd w w''
  | _ => False
/-- One value, in every world of the class. -/
def Det (o : Oper) (a : Act) (v : Value) : Prop := ∀ f w, C (f + 1) w → detUpon P C nd f w v ((execOp a.eval o).run P w)
def ndUpon (f : Nat) (w : World) (Φ : Value → World → Prop) : Result Next → Prop
  | .ok (.value u) w' => C f w' ∧ Φ u w' ∧ Keeps nd w w'
  | .ok (.enter g args) w' => w' = w ∧ Calls P g args w fun e w'' => ∃ u, e = .returned u ∧ C f w'' ∧ Φ u w'' ∧ Keeps nd w w''
  | _ => False
/-- Some value of which this is known. -/
def Nd (o : Oper) (a : Act) (Φ : Value → World → Prop) : Prop := ∀ f w, C (f + 1) w → ndUpon P C nd f w Φ ((execOp a.eval o).run P w)
def Op (i : Nat) (N : Act → List (Nat × Value) → Prop) (a : Act) (kn : List (Nat × Value)) : Prop :=
  match ops[i]? with
  | none => N a kn
  | some o =>
    if Region.wanted o (yielded ops a.tmps) then
      match nd i with
      | none => ∃ v, Det P C nd o a v ∧ N (a.put o.dst v) kn
      | some Φ => Nd P C nd o a Φ ∧ ∀ u, (∃ w, Φ u w) → N (a.put o.dst u) ((i, u) :: kn)
    else N (a.put o.dst undef) kn
/-- The head, in the given order. -/
def Lex (F : Act → List (Nat × Value) → Prop) : List Nat → Act → List (Nat × Value) → Prop
  | [], a, kn => F a kn
  | i :: r, a, kn => Op P ops C nd i (Lex F r) a kn
/-- So many operations of the head in whatever order; then 'L'. -/
def Any (L : Array Bool → Act → List (Nat × Value) → Prop) : Nat → Array Bool → Act → List (Nat × Value) → Prop
  | 0, s, a, kn => L s a kn
  | f + 1, s, a, kn => Region.ready md ops s ≠ [] ∧ ∀ i ∈ Region.ready md ops s, i < n ∧ Op P ops C nd i (Any L f (s.setIfInBounds i true)) a kn
def tailB : Bool := (List.range ops.size).all fun t => decide (t < n) || (List.range n).all fun i => Region.waitsFor md ops t i
/-- May the head be walked in this order? An operation of many values only where nothing else may come up. -/
def orderB (g : Nat) : List Nat → Array Bool → Bool
  | [], s => Region.seqB md ops g n s
  | i :: r, s => (Region.ready md ops s).contains i && (decide (i < n) && ((if (nd i).isSome then decide (Region.ready md ops s = [i]) else Region.free md ops s i) && orderB g r (s.setIfInBounds i true)))
def Yields (o : Oper) (v : Value) (a : Act) : Prop :=
  (Region.wanted o (yielded ops a.tmps) = true ∧ Det P C nd o a v) ∨ (Region.wanted o (yielded ops a.tmps) = false ∧ v = undef)
end

variable {P : Program} {ops : Array Oper} {md : Region.Mode} {C : Nat → World → Prop} {nd : Nat → Option (Value → World → Prop)} {n : Nat}

theorem Op.mono {i : Nat} {N N' : Act → List (Nat × Value) → Prop} {a : Act} {kn : List (Nat × Value)} (h : ∀ a kn, N a kn → N' a kn) (k : Op P ops C nd i N a kn) : Op P ops C nd i N' a kn := by
  unfold Op at *
  cases ho : ops[i]? with
  | none => simp only [ho] at k ⊢; exact h _ _ k
  | some o =>
    simp only [ho] at k ⊢
    split
    · rename_i hw
      simp only [hw, if_true] at k
      cases hn : nd i with
      | none =>
        simp only [hn] at k ⊢
        exact let ⟨v, k1, k2⟩ := k; ⟨v, k1, h _ _ k2⟩
      | some Φ =>
        simp only [hn] at k ⊢
        exact ⟨k.1, fun u hu => h _ _ (k.2 u hu)⟩
    · rename_i hw
      simp only [hw] at k
      exact h _ _ k

theorem Yields.op {i : Nat} {o : Oper} {v : Value} {a : Act} {kn : List (Nat × Value)} (hi : ops[i]? = some o) (hn : nd i = none) (hy : Yields P ops C nd o v a) {N : Act → List (Nat × Value) → Prop} (h : N (a.put o.dst v) kn) : Op P ops C nd i N a kn := by
  unfold Op
  simp only [hi, hn]
  rcases hy with ⟨hw, hv⟩ | ⟨hw, rfl⟩
  · simp only [hw, if_true]; exact ⟨v, hv, h⟩
  · simp only [hw, Bool.false_eq_true, if_false]; exact h

theorem yields_of {i : Nat} {o : Oper} {a : Act} {kn : List (Nat × Value)} {N : Act → List (Nat × Value) → Prop} (hi : ops[i]? = some o) (hn : nd i = none) (h : Op P ops C nd i N a kn) : ∃ v, Yields P ops C nd o v a ∧ N (a.put o.dst v) kn := by
  unfold Op at h
  simp only [hi, hn] at h
  by_cases hw : Region.wanted o (yielded ops a.tmps) = true
  · simp only [hw, if_true] at h
    obtain ⟨v, h1, h2⟩ := h
    exact ⟨v, .inl ⟨hw, h1⟩, h2⟩
  · simp only [hw] at h
    exact ⟨undef, .inr ⟨by simpa using hw, rfl⟩, h⟩

theorem Op.put {j : Nat} {oi oj : Oper} {v : Value} (hj : ops[j]? = some oj) (hap : oi.apart ops oj = true) (hsi : ∀ cs b, oi.op ≠ .select cs b) (hsj : ∀ cs b, oj.op ≠ .select cs b)
    {N : Act → List (Nat × Value) → Prop} {a : Act} {kn : List (Nat × Value)} (hy : Yields P ops C nd oi v a) (h : Op P ops C nd j N (a.put oi.dst v) kn) :
    Op P ops C nd j (fun a' kn' => Yields P ops C nd oi v a' ∧ N (a'.put oi.dst v) kn') a kn := by
  obtain ⟨h1, h2, h3⟩ := Oper.apart_spec hap
  have keep : ∀ u, Yields P ops C nd oi v (a.put oj.dst u) := fun u => by
    unfold Yields Det at *
    rw [execOp_put oi hsi a oj.dst u h3, wanted_put oi a oj.dst u h3]
    exact hy
  unfold Op at *
  simp only [hj] at *
  rw [wanted_put oj a oi.dst v h1] at h
  split
  · rename_i hw
    simp only [hw, if_true] at h
    cases hn : nd j with
    | none =>
      simp only [hn] at h ⊢
      obtain ⟨u, hu, k⟩ := h
      refine ⟨u, ?_, keep u, by rw [← Act.put_comm a v u h2]; exact k⟩
      unfold Det at *
      rwa [execOp_put oj hsj a oi.dst v h1] at hu
    | some Φ =>
      simp only [hn] at h ⊢
      refine ⟨?_, fun u hu => ⟨keep u, by rw [← Act.put_comm a v u h2]; exact h.2 u hu⟩⟩
      have := h.1
      unfold Nd at *
      rwa [execOp_put oj hsj a oi.dst v h1] at this
  · rename_i hw
    simp only [hw] at h
    exact ⟨keep _, by rw [← Act.put_comm a v undef h2]; exact h⟩

theorem tail_not {i j : Nat} {s : Array Bool} (hT : tailB ops md n = true) (hi : i < n) (hu : s.getD i true = false) (hj : j ∈ Region.ready md ops s) : j < n := by
  by_cases h : j < n
  · exact h
  · exfalso
    obtain ⟨_, oj, hoj, all⟩ := mem_ready.1 hj
    have h1 := List.all_eq_true.1 hT j (List.mem_range.2 (Array.getElem?_eq_some_iff.1 hoj).1)
    simp only [h, decide_false, Bool.false_or] at h1
    obtain ⟨o', ho', e, he, hb, hon⟩ := Region.waitsFor_spec (List.all_eq_true.1 h1 i (List.mem_range.2 hi))
    obtain rfl : o' = oj := Option.some.inj (ho'.symm.trans hoj)
    have t := all e he hb
    rw [hon, getD_both hu] at t
    cases t

theorem first {i : Nat} {oi : Oper} {v : Value} {L : Array Bool → Act → List (Nat × Value) → Prop} (hi : ops[i]? = some oi) (hsel : ∀ (j : Nat) (o : Oper) cs b, ops[j]? = some o → o.op ≠ .select cs b) (hn : nd i = none)
    (hT : tailB ops md n = true) (hin : i < n) (hL : ∀ s a kn, L s a kn → ∀ j ∈ Region.ready md ops s, n ≤ j) :
    ∀ (f : Nat) (s : Array Bool) (a : Act) (kn : List (Nat × Value)),
      (∀ j oj, ops[j]? = some oj → j ≠ i → s.getD j true = false → (∀ e ∈ oj.after, Region.binds md e = true → e.on ≠ i) → oi.apart ops oj = true) →
      i ∈ Region.ready md ops s → Yields P ops C nd oi v a → Any P ops md C nd n L f (s.setIfInBounds i true) (a.put oi.dst v) kn → Any P ops md C nd n L (f + 1) s a kn := by
  intro f
  induction f with
  | zero =>
    intro s a kn _ hr hy H
    refine ⟨List.ne_nil_of_mem hr, fun j hj => ⟨tail_not hT hin (mem_ready.1 hr).1 hj, ?_⟩⟩
    rcases Nat.decEq j i with hji | rfl
    · have h1 := hL _ _ _ H j (ready_mono hj hji)
      have h2 := tail_not hT hin (mem_ready.1 hr).1 hj
      omega
    · exact hy.op hi hn H
  | succ f ih =>
    intro s a kn free hr hy H
    refine ⟨List.ne_nil_of_mem hr, fun j hj => ⟨tail_not hT hin (mem_ready.1 hr).1 hj, ?_⟩⟩
    rcases Nat.decEq j i with hji | rfl
    · obtain ⟨ju, oj, hoj, all⟩ := mem_ready.1 hj
      have apart : oi.apart ops oj = true := free j oj hoj hji ju fun e he hb heq => by
        have t := all e he hb
        rw [heq, getD_both (mem_ready.1 hr).1] at t
        cases t
      refine Op.mono (fun a' kn' h3 => ih _ a' kn' (fun k ok hk hki hun hno => free k ok hk hki ?_ hno) (ready_mono hr (Ne.symm hji)) h3.1 ?_) (Op.put hoj apart (fun cs b => hsel i oi cs b hi) (fun cs b => hsel j oj cs b hoj) hy (H.2 j (ready_mono hj hji)).2)
      · by_cases hjk : j = k
        · exact hjk ▸ ju
        · rwa [getD_set_ne true hjk] at hun
      · rw [Array.setIfInBounds_comm _ _ hji]
        exact h3.2
    · exact hy.op hi hn H

theorem lex {g : Nat} {F : Act → List (Nat × Value) → Prop} (hsel : Region.noSelect ops = true) (hT : tailB ops md n = true) :
    ∀ (r : List Nat) (s : Array Bool) (a : Act) (kn : List (Nat × Value)), orderB ops md nd n g r s = true → Lex P ops C nd F r a kn → Any P ops md C nd n (fun s' a' kn' => Region.seqB md ops g n s' = true ∧ F a' kn') r.length s a kn := by
  intro r
  induction r with
  | nil => intro s a kn hB h; exact ⟨hB, h⟩
  | cons i r ih =>
    intro s a kn hB h
    simp only [orderB, Bool.and_eq_true, decide_eq_true_eq] at hB
    obtain ⟨hr, hin, hk, hB⟩ := hB
    have hr : i ∈ Region.ready md ops s := by simpa using hr
    obtain ⟨_, oi, hoi, _⟩ := mem_ready.1 hr
    cases hn : nd i with
    | none =>
      simp only [hn, Option.isSome_none, Bool.false_eq_true, if_false] at hk
      obtain ⟨v, hy, hK⟩ := yields_of hoi hn h
      exact first hoi (Region.noSelect_spec hsel) hn hT hin (fun _ _ _ hL => seqB_ready hL.1) r.length s a kn (Region.free_spec hoi hk) hr hy (ih _ _ _ hB hK)
    | some Φ =>
      simp only [hn, Option.isSome_some, if_true, decide_eq_true_eq] at hk
      refine ⟨List.ne_nil_of_mem hr, fun j hj => ?_⟩
      rw [hk] at hj
      obtain rfl : j = i := by simpa using hj
      exact ⟨hin, Op.mono (fun a' kn' h' => ih _ a' kn' hB h') h⟩

theorem holds_cons {kn : List (Nat × Value)} {w : World} {i : Nat} {u : Value} {Φ : Value → World → Prop} (hn : nd i = some Φ) (h : Holds nd kn w) (hu : Φ u w) : Holds nd ((i, u) :: kn) w := by
  intro x hx Φ' hΦ
  rcases List.mem_cons.1 hx with rfl | hx
  · rw [hn] at hΦ; cases hΦ; exact hu
  · exact h x hx Φ' hΦ
theorem Holds.kept {kn : List (Nat × Value)} {w w' : World} (h : Holds nd kn w) (k : Keeps nd w w') : Holds nd kn w' := fun x hx Φ hΦ => k x.1 Φ x.2 hΦ (h x hx Φ hΦ)

theorem wpOp_of {i : Nat} {a : Act} {kn : List (Nat × Value)} {N : Act → List (Nat × Value) → Prop} {K : Act → World → Prop} {Q : Exit → Act → World → Prop} {f : Nat} {w : World} (mono : ∀ f w, C (f + 1) w → C f w)
    (hw : C (f + 1) w) (hk : Holds nd kn w) (h : ∀ a kn w, C f w → Holds nd kn w → N a kn → K a w) (hh : Op P ops C nd i N a kn) : wpOp P ops Q i K a w := by
  unfold Op at hh
  unfold wpOp
  cases ho : ops[i]? with
  | none => simp only [ho] at hh ⊢; exact h _ _ _ (mono _ _ hw) hk hh
  | some o =>
    simp only [ho] at hh ⊢
    split
    · rename_i hwt
      simp only [hwt, if_true] at hh
      refine .inl ?_
      unfold Oper.wp
      cases hn : nd i with
      | none =>
        simp only [hn] at hh
        obtain ⟨v, hd, hN⟩ := hh
        have hd := hd f w hw
        generalize (execOp a.eval o).run P w = r at *
        cases r with
        | halt x w' => simp only [detUpon] at hd
        | ok x w' =>
          cases x <;> simp only [detUpon] at hd <;> simp only [Oper.upon]
          case value u => obtain ⟨rfl, rfl⟩ := hd; exact h _ _ _ (mono _ _ hw) hk hN
          case skip => obtain ⟨rfl, rfl⟩ := hd; exact h _ _ _ (mono _ _ hw) hk hN
          case enter g args =>
            obtain ⟨rfl, hc⟩ := hd
            exact hc.mono fun e w'' ⟨he, hC, hK⟩ => by subst he; exact h _ _ _ hC (hk.kept hK) hN
      | some Φ =>
        simp only [hn] at hh
        obtain ⟨hd, hN⟩ := hh
        have hd := hd f w hw
        generalize (execOp a.eval o).run P w = r at *
        cases r with
        | halt x w' => simp only [ndUpon] at hd
        | ok x w' =>
          cases x <;> simp only [ndUpon] at hd <;> simp only [Oper.upon]
          case value u => exact h _ _ _ hd.1 (holds_cons hn (hk.kept hd.2.2) hd.2.1) (hN u ⟨_, hd.2.1⟩)
          case enter g args =>
            obtain ⟨rfl, hc⟩ := hd
            exact hc.mono fun e w'' ⟨u, he, hC, hΦ, hK⟩ => by subst he; exact h _ _ _ hC (holds_cons hn (hk.kept hK) hΦ) (hN u ⟨_, hΦ⟩)
    · rename_i hwt
      simp only [hwt] at hh
      exact h _ _ _ (mono _ _ hw) hk hh

theorem Any.wp {g c : Nat} {L : Array Bool → Act → List (Nat × Value) → Prop} {Q : Exit → Act → World → Prop} (mono : ∀ f w, C (f + 1) w → C f w) (hL : ∀ s a kn w, C c w → Holds nd kn w → L s a kn → wpAny P md ops Q g s a w) :
    ∀ (f : Nat) (s : Array Bool) (a : Act) (kn : List (Nat × Value)) (w : World), C (f + c) w → Holds nd kn w → Any P ops md C nd n L f s a kn → wpAny P md ops Q (f + g) s a w := by
  intro f
  induction f with
  | zero => intro s a kn w hw hk h; rw [Nat.zero_add] at hw ⊢; exact hL _ _ _ _ hw hk h
  | succ f ih =>
    intro s a kn w hw hk h
    rw [Nat.succ_add] at hw ⊢
    exact ⟨fun e => absurd e h.1, fun i hi => wpOp_of mono hw hk (fun a' kn' w' hw' hk' h' => ih _ a' kn' w' hw' hk' h') (h.2 i hi).2⟩

/-- The region's rule. 'r': the order of the head (of 'n' operations). -/
theorem region {id : Nat} {Q : Exit → Act → World → Prop} {a : Act} {w : World} {l : List Oper} (C : Nat → World → Prop) (nd : Nat → Option (Value → World → Prop)) (n : Nat) (r : List Nat) (hm : P.follows .mixedOrders = true)
    (hB : (Region.noSelect l.toArray && (tailB l.toArray .any n && (decide (r.length = n) && (decide (n ≤ l.length) && orderB l.toArray .any nd n (l.length - n) r (Array.replicate l.length false))))) = true)
    (mono : ∀ f w, C (f + 1) w → C f w) (hw : C n { w with drawn := w.drawn + 1 })
    (h : Lex P l.toArray C nd (fun a' kn => ∀ w', C 0 w' → Holds nd kn w' → wpList P l.toArray Q (l.drop n) a' w') r a []) : (Code.region id l.toArray true).wp P Q a w := by
  simp only [Bool.and_eq_true, decide_eq_true_eq] at hB
  obtain ⟨hsel, hT, hlen, hn, hord⟩ := hB
  have hd : (l.drop n).length = l.length - n := by simp
  have H := lex (md := .any) (g := l.length - n) hsel hT r (Array.replicate l.length false) a [] hord h
  have G := Any.wp (Q := Q) (g := l.length - n) (c := 0) mono (fun s a' kn w' hw' hk hL => by
    have := wpAny_of_seq (md := .any) (Q' := Q) (l.drop n) n s a' w' (fun j => by simp [List.getElem?_drop]) (by rw [hd]; exact hL.1) (hL.2 w' hw' hk)
    rwa [hd] at this) _ _ _ _ { w with drawn := w.drawn + 1 } (by rw [hlen]; exact hw) (fun x hx => by cases hx) H
  rw [hlen, show n + (l.length - n) = l.toArray.size by simp; omega] at G
  exact wp_region_any hm (by simpa using G)

/-- One step of the walk: an operation of one value; of many. -/
theorem stepD {F : Act → List (Nat × Value) → Prop} {i : Nat} {r : List Nat} {a : Act} {kn : List (Nat × Value)} {o : Oper} (hi : ops[i]? = some o) (hn : nd i = none)
    (h : ∀ N : Act → List (Nat × Value) → Prop, (∀ a kn, Lex P ops C nd F r a kn → N a kn) → if Region.wanted o (yielded ops a.tmps) then ∃ v, (∀ f w, C (f + 1) w → detUpon P C nd f w v ((execOp a.eval o).run P w)) ∧ N (a.put o.dst v) kn else N (a.put o.dst undef) kn) : Lex P ops C nd F (i :: r) a kn := by
  unfold Lex Op
  simp only [hi, hn]
  exact h _ fun _ _ h => h
theorem stepN {F : Act → List (Nat × Value) → Prop} {i : Nat} {r : List Nat} {a : Act} {kn : List (Nat × Value)} {o : Oper} {Φ : Value → World → Prop} (hi : ops[i]? = some o) (hn : nd i = some Φ)
    (h : ∀ N : Act → List (Nat × Value) → Prop, (∀ a kn, Lex P ops C nd F r a kn → N a kn) → if Region.wanted o (yielded ops a.tmps) then (∀ f w, C (f + 1) w → ndUpon P C nd f w Φ ((execOp a.eval o).run P w)) ∧ ∀ u, (∃ w, Φ u w) → N (a.put o.dst u) ((i, u) :: kn) else N (a.put o.dst undef) kn) : Lex P ops C nd F (i :: r) a kn := by
  unfold Lex Op
  simp only [hi, hn]
  exact h _ fun _ _ h => h
theorem lexEnd {F : Act → List (Nat × Value) → Prop} {a : Act} {kn : List (Nat × Value)} (h : F a kn) : Lex P ops C nd F [] a kn := h

end LR
end Go.Proofs.Ytlkompbigpbefab
