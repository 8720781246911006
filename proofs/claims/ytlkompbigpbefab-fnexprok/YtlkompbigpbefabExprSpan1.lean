/-
  Rows of spans that the call itself made: a span more behind them, what lies in them; how a reckoned span is told.
-/
import Derived.Test.YtlkompbigpbefabExprRep
import Derived.Laws.AppendOwn
import Derived.OwnWalk
import Derived.Lib.SmallJoins
namespace Go.Proofs.Ytlkompbigpbefab
open Go.RowKit Go.Sort Go.Joins
set_option linter.unusedVariables false
set_option maxRecDepth 8000
namespace ER
open EM SK
/-- The span of what can be reckoned, else nothing. -/
def pS : P → Value
  | none => spV 0 0
  | some s => spV s.1 s.2
theorem pS_opt (c : Bool) (l h : Int) : pS (opt c l h) = spV (SM.sel c l) (SM.sel c h) ∧ (opt c l h).isSome = c := by
  cases c <;> exact ⟨rfl, rfl⟩
/-- Spans, cell by cell. -/
def flat : List (Int × Int) → List Value
  | [] => []
  | s :: l => .int .i64 s.1 :: .int .i64 s.2 :: flat l
theorem flat_len : ∀ l : List (Int × Int), (flat l).length = l.length * 2
  | [] => rfl
  | s :: l => by simp only [flat, List.length_cons, flat_len l]; omega
theorem flat_app : ∀ l m : List (Int × Int), flat (l ++ m) = flat l ++ flat m
  | [], _ => rfl
  | s :: l, m => by simp only [List.cons_append, flat, flat_app l m]
theorem flat_cell : ∀ (l : List (Int × Int)) (u : Value), u ∈ flat l → u.oneCell' = true
  | [], u, h => by simp [flat] at h
  | s :: l, u, h => by
    simp only [flat, List.mem_cons] at h
    rcases h with rfl | rfl | h
    · rfl
    · rfl
    · exact flat_cell l u h
theorem heap_new (w : World) (o : Obj) : (w.alloc o).heap[w.heap.size]? = some o := by rw [← World.alloc_eq]; simp
theorem size_new (w : World) (o : Obj) : (w.alloc o).heap.size = w.heap.size + 1 := by simp
theorem heap_new3 (w : World) (a b c : Obj) : (((w.alloc a).alloc b).alloc c).heap[w.heap.size + 1 + 1]? = some c := by
  have := heap_new ((w.alloc a).alloc b) c
  rw [size_new, size_new] at this
  exact this
theorem Ex.low {w w' : World} {b base : Nat} {k a c : Int} {v : Value} (h : Ex w b k a c v) (x : Below base w w') (hb : b < base) : Ex w' b k a c v :=
  ⟨(x.cell hb).trans h.c0, (x.cell hb).trans h.c1, (x.cell hb).trans h.c2, (x.cell hb).trans h.c3⟩
theorem box_low {w w' : World} {b base : Nat} {l h : Int} (X : Box w b l h) (x : Below base w w') (hb : b < base) : Box w' b l h :=
  ⟨(x.cell hb).trans X.c0, (x.cell hb).trans X.c1, (x.frozen hb).trans X.f0, (x.frozen hb).trans X.f1⟩
/-- A row of spans of the call's own. -/
def Own (w : World) (base : Nat) (v : Value) (l : List (Int × Int)) : Prop := w.ownsRow base 58 2 v l.length (flat l)
theorem Own.kept {w w' : World} {base : Nat} {v : Value} {l : List (Int × Int)} (h : Own w base v l) (B : Below w.heap.size w w') : Own w' base v l := by
  obtain ⟨h1, h2 | ⟨g, cap, cur, rfl, hb, hg, r⟩⟩ := h
  · exact ⟨h1, .inl h2⟩
  · exact ⟨h1, .inr ⟨g, cap, cur, rfl, hb, (B.block g (by have := (Array.getElem?_eq_some_iff.1 hg).1; exact this)).trans hg, r⟩⟩
theorem Own.apart {w : World} {base b o : Nat} {v : Value} {l : List (Int × Int)} (h : Own w base v l) (hb : b < base) (u : Value) : Own (w.setCell ⟨b, o, none⟩ u) base v l := by
  obtain ⟨h1, h2 | ⟨g, cap, cur, rfl, hg, he, r⟩⟩ := h
  · exact ⟨h1, .inl h2⟩
  · exact ⟨h1, .inr ⟨g, cap, cur, rfl, hg, (Below.heap_setCell _ _ _ _ (by show g ≠ b; omega)).trans he, r⟩⟩
theorem infoSpan : (Try.prog.info? 58).map (fun i => (i.zero, i.size, i.bytes)) = some (some (spV 0 0), 2, 16) := by kernel_rfl
/-- A span more behind an own row. -/
theorem wpApp {w : World} {ops : Array Oper} {rest : List Oper} {o : Oper} {a : Act} {Q : Exit → Act → World → Prop} (hgd : o.guard = none) (s x : Operand)
    (ho : o.op = .call { callee := .builtin .append, args := #[s, x], argTypes := #[111, 111] }) (base : Nat) (v : Value) (l : List (Int × Int)) (t : Int × Int) (hs : a.eval s = v) (h : Own w base v l)
    (ad : Addr) (c : Nat) (hx : a.eval x = .slice (some ad) 1 c) (c0 : w.cell? (ad.add 0) = some (.int .i64 t.1)) (c1 : w.cell? (ad.add 1) = some (.int .i64 t.2)) (hn : l.length ≤ 1000) (hbase : base ≤ w.heap.size)
    (K : ∀ v' w', Own w' base v' (l ++ [t]) → w.grownBy w' v.ownBlock → wpList Try.prog ops Q rest (a.put o.dst v') w') : wpList Try.prog ops Q (o :: rest) a w := by
  obtain ⟨i0, hi, hz0, hz1, hz2⟩ := info_parts infoSpan
  refine wpList_append_own w hgd s x 111 ho base 58 i0 (spV 0 0) 2 16 Try.underlying111 hi hz0 hz1 hz2 rfl (by decide) v l.length (flat l) hs h ad 1 c (flat [t]) hx rfl ?_ (flat_cell _) (by simp only [maxLen]; omega) (by omega) hbase ?_
  · intro j u hj
    match j, hj with
    | 0, hj => simp [flat] at hj; subst hj; exact c0
    | 1, hj => simp [flat] at hj; subst hj; exact c1
    | j + 2, hj => simp [flat] at hj
  · intro v' w' h2 h3 _
    refine K v' w' ?_ h3
    unfold Own
    rw [flat_app, List.length_append]
    exact h2
theorem Own.nil {w : World} {base : Nat} : Own w base (.slice none 0 0) [] := ⟨rfl, .inl ⟨rfl, rfl⟩⟩
theorem Own.grown {w0 w w' : World} {base : Nat} {v : Value} {l : List (Int × Int)} (B : Below base w0 w) (hbase : base ≤ w.heap.size) (h : Own w base v l) (hg : w.grownBy w' v.ownBlock) : Below base w0 w' :=
  B.grown hg hbase fun k hk => (World.ownsRow.lt h k hk).1
/-- Where it lies, when it is not empty. -/
structure At (w : World) (g : Nat) (o : Nat) (s : Int × Int) : Prop where
  c0 : w.cell? ⟨g, o, none⟩ = some (.int .i64 s.1)
  c1 : w.cell? ⟨g, o + 1, none⟩ = some (.int .i64 s.2)
theorem Own.one {w : World} {base : Nat} {v : Value} {s : Int × Int} (h : Own w base v [s]) : ∃ g cap, v = .slice (some ⟨g, 0, none⟩) 1 cap ∧ base ≤ g ∧ w.cell? ⟨g, 0, none⟩ = some (.int .i64 s.1) ∧ w.cell? ⟨g, 1, none⟩ = some (.int .i64 s.2) := by
  obtain ⟨_, ⟨_, h0⟩ | ⟨g, cap, ⟨cur⟩, rfl, hb, hg, hn, hm, hs, ht⟩⟩ := h
  · cases h0
  · match cur, ht with
    | x :: y :: r, ht =>
      simp [flat] at ht
      obtain ⟨rfl, rfl⟩ := ht
      exact ⟨g, cap, rfl, hb, by rw [cell_of_block hg]; simp, by rw [cell_of_block hg]; simp⟩
theorem Own.two {w : World} {base : Nat} {v : Value} {s t : Int × Int} (h : Own w base v [s, t]) : ∃ g cap, v = .slice (some ⟨g, 0, none⟩) 2 cap ∧ base ≤ g ∧ w.cell? ⟨g, 0, none⟩ = some (.int .i64 s.1) ∧ w.cell? ⟨g, 1, none⟩ = some (.int .i64 s.2) ∧ w.cell? ⟨g, 2, none⟩ = some (.int .i64 t.1) ∧ w.cell? ⟨g, 3, none⟩ = some (.int .i64 t.2) := by
  obtain ⟨_, ⟨_, h0⟩ | ⟨g, cap, ⟨cur⟩, rfl, hb, hg, hn, hm, hs, ht⟩⟩ := h
  · cases h0
  · match cur, ht with
    | x :: y :: z :: u :: r, ht =>
      simp [flat] at ht
      obtain ⟨rfl, rfl, rfl, rfl⟩ := ht
      exact ⟨g, cap, rfl, hb, by rw [cell_of_block hg]; simp, by rw [cell_of_block hg]; simp, by rw [cell_of_block hg]; simp, by rw [cell_of_block hg]; simp⟩
end ER
end Go.Proofs.Ytlkompbigpbefab
