/-
  The draw of a tree, some spoilt: what the specification's l71Bent returns.
-/
import Derived.Test.YtlkompbigpbefabDrawExpr5
import Derived.Test.YtlkompbigpbefabExprSpan5
namespace Go.Proofs.Ytlkompbigpbefab
open Go.RowKit Go.Sort Go.Joins
set_option linter.unusedVariables false
set_option maxRecDepth 8000
namespace DX
open DK DW SK EM ER
/-- An own row of Exprs; neither it nor what is below it lies in block 'eb'. -/
def OwnZ (base eb : Nat) (w : World) (u : Value) (t : F) : Prop := ∃ xs, w.ownsRow base 25 4 u t.len xs ∧ RowL (fun b => Off base u b ∧ b ≠ eb) w t xs ∧ u.ownBlock ≠ some eb
theorem OwnZ.of_old {base eb : Nat} {w : World} {u : Value} {t : F} (h : OwnX base w u t) (hb : w.heap.size ≤ eb) : OwnZ base eb w u t := by
  obtain ⟨xs, h1, h2⟩ := h
  refine ⟨xs, h1, h2.turn (fun _ _ _ => rfl) (fun b hb' hl => ⟨hb', by omega⟩), fun e => ?_⟩
  have := (World.ownsRow.lt h1 eb e).2
  omega
theorem OwnZ.of_new {base base' eb : Nat} {w : World} {u : Value} {t : F} (h : OwnX base' w u t) (hb : base ≤ base') (he : eb < base') : OwnZ base eb w u t := by
  obtain ⟨xs, h1, h2⟩ := h
  have h3 : w.ownsRow base 25 4 u t.len xs := by
    obtain ⟨g1, g2 | ⟨g, cap, cur, rfl, hg, r⟩⟩ := h1
    · exact ⟨g1, .inl g2⟩
    · exact ⟨g1, .inr ⟨g, cap, cur, rfl, Nat.le_trans hb hg, r⟩⟩
  refine ⟨xs, h3, h2.turn (fun _ _ _ => rfl) (fun b hb' _ => ⟨⟨Nat.le_trans hb hb'.1, hb'.2⟩, by have := hb'.1; omega⟩), fun e => ?_⟩
  have := (World.ownsRow.lt h1 eb e).1
  omega
theorem OwnZ.keep {base eb : Nat} {w w' : World} {u : Value} {t : F} (k : OwnZ base eb w u t) (h : ∀ b, base ≤ b → b ≠ eb → b < w.heap.size → w'.heap[b]? = w.heap[b]?) : OwnZ base eb w' u t := by
  obtain ⟨xs, ⟨h1, h2 | ⟨g, cap, cur, rfl, hb, hg, r⟩⟩, hr, ho⟩ := k
  · exact ⟨xs, ⟨h1, .inl h2⟩, hr.turn (fun b hb hl => h b hb.1.1 hb.2 hl) (fun _ hb _ => hb), ho⟩
  · have hge : g ≠ eb := fun e => ho (by rw [e]; rfl)
    exact ⟨xs, ⟨h1, .inr ⟨g, cap, cur, rfl, hb, (h g hb hge (Array.getElem?_eq_some_iff.1 hg).1).trans hg, r⟩⟩, hr.turn (fun b hb hl => h b hb.1.1 hb.2 hl) (fun _ hb _ => hb), ho⟩
theorem OwnZ.ownX {base eb : Nat} {w : World} {u : Value} {t : F} (k : OwnZ base eb w u t) : OwnX base w u t := by
  obtain ⟨xs, h1, hr, _⟩ := k
  exact ⟨xs, h1, hr.turn (fun _ _ _ => rfl) (fun b hb _ => hb.1)⟩
theorem OwnZ.kids {base eb : Nat} {w : World} {u : Value} {t : F} (k : OwnZ base eb w u t) : KidsS (fun b => base ≤ b ∧ b ≠ eb) w t u := by
  obtain ⟨xs, ⟨h1, ⟨rfl, h2⟩ | ⟨g, cap, cur, rfl, hb, hg, hn, hm, hs, ht⟩⟩, hr, ho⟩ := k
  · exact ⟨_, _, _, rfl, h2.symm, .inl h2⟩
  · have hr' : RowL (fun b => base ≤ b ∧ b ≠ eb) w t xs := hr.turn (fun _ _ _ => rfl) (fun b hb _ => ⟨hb.1.1, hb.2⟩)
    refine ⟨_, _, _, rfl, rfl, .inr ⟨g, 0, rfl, ⟨hb, fun e => ho (by rw [e]; rfl)⟩, hr'.row hg fun j u hu => ?_⟩⟩
    rw [Nat.zero_add]
    rw [← ht] at hu
    have := List.getElem?_take (l := cur.toList) (i := t.len * 4) (j := j)
    rw [this] at hu
    split at hu
    · simpa using hu
    · cases hu
/-- An Expr more behind it. -/
theorem OwnZ.append {w : World} {base eb : Nat} {u : Value} {t : F} (h : OwnZ base eb w u t) (he : eb < w.heap.size) (hl : t.len ≤ 1000) (hbase : base ≤ w.heap.size) {k a c : Int} {s : F} {x : Value} (hx : KidsS (fun b => Off base u b ∧ b ≠ eb) w s x) {b0 cp : Nat}
    (c0 : w.cell? ⟨b0, 0, none⟩ = some (.int .i64 k)) (c1 : w.cell? ⟨b0, 1, none⟩ = some (.int .i64 a)) (c2 : w.cell? ⟨b0, 2, none⟩ = some (.int .i64 c)) (c3 : w.cell? ⟨b0, 3, none⟩ = some x) (ty : TypeId) :
    ∃ v' w', (Builtin.append_ #[23, 23] ty #[u, .slice (some ⟨b0, 0, none⟩) 1 cp]).run Try.prog w = .ok v' w' ∧ OwnZ base eb w' v' (snoc t k a c s) ∧ w.grownBy w' u.ownBlock := by
  obtain ⟨xs, ho, hr, hne⟩ := h
  obtain ⟨i0, hi, hz0, hz1, hz2⟩ := info_parts infoX
  obtain ⟨p, n, cap, rfl, h5, h6⟩ := hx
  obtain ⟨v', w', hrun, g1, g2, g3, g4⟩ := append_keep w base 23 ty 25 i0 (exV 0 0 0 (.slice none 0 0)) 4 48 Try.underlying23 hi hz0 hz1 hz2 rfl (by decide) u t.len xs ho ⟨b0, 0, none⟩ 1 cp [.int .i64 k, .int .i64 a, .int .i64 c, .slice p n cap] rfl
    (fun j y hy => by
      match j, hy with
      | 0, hy => cases hy; exact c0
      | 1, hy => cases hy; exact c1
      | 2, hy => cases hy; exact c2
      | 3, hy => cases hy; exact c3
      | j + 4, hy => cases hy)
    (fun y hy => by
      simp only [List.mem_cons, List.not_mem_nil, or_false] at hy
      rcases hy with rfl | rfl | rfl | rfl <;> rfl)
    (by simp only [maxLen]; omega) (by omega) hbase
  have K : KeepS (fun b => Off base u b ∧ b ≠ eb) w w' := fun b hb hlt => g2.block b hlt (fun e => hb.1.2 e.symm)
  have W : ∀ b, (Off base u b ∧ b ≠ eb) → b < w.heap.size → (Off base v' b ∧ b ≠ eb) := fun b hb hlt => ⟨⟨hb.1.1, fun e => by
    rcases g4 with g4 | g4
    · exact hb.1.2 (g4 ▸ e)
    · rw [g4] at e
      cases e
      omega⟩, hb.2⟩
  refine ⟨v', w', hrun, ⟨_, by rw [snoc_len]; exact g1, RowL.snoc (KidsS.turn ⟨p, n, cap, rfl, h5, h6⟩ K W) (hr.turn K W), fun e => ?_⟩, g2⟩
  rcases g4 with g4 | g4
  · exact hne (g4 ▸ e)
  · rw [g4] at e
    cases e
    omega
/-- What is held while a tree is spoilt: it lies in block 'eb'; the answer's block is 'zb'. -/
structure St (k zb eb M : Nat) (we : World) (kk a c : Int) (t : F) (u : Value) (w : World) : Prop where
  ob : Ob w eb kk a c u
  oz : Ob w zb 0 0 0 (.slice none 0 0)
  ow : OwnZ (zb + 1) eb w u t
  tl : t.len ≤ 2
  rd : ∃ q, Rd w k q ∧ q ≤ M
  tc : Tch k zb we w
  lt : zb < eb ∧ k < zb
theorem St.kept {k zb eb M : Nat} {we w w' : World} {kk a c : Int} {t : F} {u : Value} (h : St k zb eb M we kk a c t u w) (B : Below w.heap.size w w') : St k zb eb M we kk a c t u w' := by
  obtain ⟨q, R, hq⟩ := h.rd
  have lz := ob_lt h.oz
  exact ⟨h.ob.kept B, h.oz.kept B, h.ow.keep fun b _ _ hl => B.block b hl, h.tl, ⟨q, R.kept B, hq⟩, h.tc.trans (Tch.ofBelow (B.mono (by omega))), h.lt⟩
/-- The reader has been at work. -/
theorem St.read {k zb eb M M' : Nat} {we w w' : World} {kk a c : Int} {t : F} {u : Value} (h : St k zb eb M we kk a c t u w) (T : Tch k w.heap.size w w') (R : ∃ q, Rd w' k q ∧ q ≤ M') : St k zb eb M' we kk a c t u w' := by
  have lz := ob_lt h.oz
  have := h.lt
  exact ⟨ob_tch h.ob T (by omega), ob_tch h.oz T (by omega), h.ow.keep fun b hb _ hl => T.block b hl (by omega), h.tl, R, h.tc.trans (T.mono (by omega)), h.lt⟩
/-- What is drawn anew is laid into its place. -/
theorem St.laid {k zb eb M : Nat} {we w : World} {kk a c : Int} {t : F} {u : Value} (h : St k zb eb M we kk a c t u w) {kk' a' c' : Int} {t' : F} {u' : Value} {base : Nat} (ho : OwnX base w u' t') (hb : eb < base) (hl : t'.len ≤ 2) :
    St k zb eb M we kk' a' c' t' u' (set4 w eb 0 (.int .i64 kk') (.int .i64 a') (.int .i64 c') u') := by
  obtain ⟨q, R, hq⟩ := h.rd
  have lt := h.lt
  have oth : ∀ b, b ≠ eb → (set4 w eb 0 (.int .i64 kk') (.int .i64 a') (.int .i64 c') u').heap[b]? = w.heap[b]? := fun b hb => set4_other w _ _ _ _ hb
  obtain ⟨⟨e0, e1, e2, e3⟩, ef⟩ := h.ob
  refine ⟨⟨⟨?_, ?_, ?_, ?_⟩, fun o => ?_⟩, ob_keep h.oz (oth _ (by omega)), (OwnZ.of_new ho (by omega) hb).keep fun b _ hne _ => oth b hne, hl, ⟨q, rd_moved R (oth _ (by omega)) (fun j hj => oth _ (by omega)), hq⟩, h.tc.trans (Tch.ofBelow (set4_below (Below.refl _ _) (by omega) _ _ _ _)), lt⟩
  all_goals simp [set4, go_sem, *]
/-- One number of it is turned. -/
theorem St.turn0 {k zb eb M : Nat} {we w : World} {kk a c : Int} {t : F} {u : Value} (h : St k zb eb M we kk a c t u w) (x : Int) : St k zb eb M we x a c t u (w.setCell ⟨eb, 0, none⟩ (.int .i64 x)) := by
  obtain ⟨q, R, hq⟩ := h.rd
  have lt := h.lt
  have oth : ∀ b, b ≠ eb → (w.setCell ⟨eb, 0, none⟩ (.int .i64 x)).heap[b]? = w.heap[b]? := fun b hb => Below.heap_setCell _ _ _ _ hb
  obtain ⟨⟨e0, e1, e2, e3⟩, ef⟩ := h.ob
  refine ⟨⟨⟨?_, ?_, ?_, ?_⟩, fun o => ?_⟩, ob_keep h.oz (oth _ (by omega)), h.ow.keep fun b _ hne _ => oth b hne, h.tl, ⟨q, rd_moved R (oth _ (by omega)) (fun j hj => oth _ (by omega)), hq⟩, h.tc.trans (Tch.ofBelow ((Below.refl zb _).setCell (by show zb ≤ eb; omega) _)), lt⟩
  all_goals simp [go_sem, *]
theorem St.turn1 {k zb eb M : Nat} {we w : World} {kk a c : Int} {t : F} {u : Value} (h : St k zb eb M we kk a c t u w) (x : Int) : St k zb eb M we kk x c t u (w.setCell ⟨eb, 1, none⟩ (.int .i64 x)) := by
  obtain ⟨q, R, hq⟩ := h.rd
  have lt := h.lt
  have oth : ∀ b, b ≠ eb → (w.setCell ⟨eb, 1, none⟩ (.int .i64 x)).heap[b]? = w.heap[b]? := fun b hb => Below.heap_setCell _ _ _ _ hb
  obtain ⟨⟨e0, e1, e2, e3⟩, ef⟩ := h.ob
  refine ⟨⟨⟨?_, ?_, ?_, ?_⟩, fun o => ?_⟩, ob_keep h.oz (oth _ (by omega)), h.ow.keep fun b _ hne _ => oth b hne, h.tl, ⟨q, rd_moved R (oth _ (by omega)) (fun j hj => oth _ (by omega)), hq⟩, h.tc.trans (Tch.ofBelow ((Below.refl zb _).setCell (by show zb ≤ eb; omega) _)), lt⟩
  all_goals simp [go_sem, *]
theorem St.kids {k zb eb M : Nat} {we w : World} {kk a c : Int} {t : F} {u : Value} (h : St k zb eb M we kk a c t u w) : KidsS (fun b => zb < b) w t u := h.ow.kids.turn (fun _ _ _ => rfl) (fun b hb _ => hb.1)
theorem wpRun {P : Program} {ops : Array Oper} {Q : Exit → Act → World → Prop} {a : Act} {w w' : World} {rest : List Oper} {o : Oper} {v : Value} (hg : o.guard = none) (hr : (execOp a.eval o).run P w = .ok (.value v) w') (K : wpList P ops Q rest (a.put o.dst v) w') : wpList P ops Q (o :: rest) a w := by
  unfold wpList
  have hw : Region.wanted o (yielded ops a.tmps) = true := by simp [Region.wanted, hg]
  rw [if_pos hw]
  refine .inl ?_
  unfold Oper.wp
  rw [hr]
  exact K
/-- An Expr more behind the Kids, in a world that has it in a new block; where it all lies then. -/
theorem St.grow {k zb eb M : Nat} {we w : World} {kk a c : Int} {t : F} {u : Value} (h : St k zb eb M we kk a c t u w) {k1 a1 c1 : Int} {b0 cp : Nat} (hE : Ex w b0 k1 a1 c1 (.slice none 0 0)) (ty : TypeId) :
    ∃ pv nv cv w', (Builtin.append_ #[23, 23] ty #[u, .slice (some ⟨b0, 0, none⟩) 1 cp]).run Try.prog w = .ok (.slice pv nv cv) w' ∧ Ob w' eb kk a c u ∧ Ob w' zb 0 0 0 (.slice none 0 0) ∧ KidsS (fun b => zb < b ∧ b ≠ eb) w' (snoc t k1 a1 c1 .nil) (.slice pv nv cv) ∧ (∃ q, Rd w' k q ∧ q ≤ M) ∧ Tch k zb we w' := by
  obtain ⟨q, R, hq⟩ := h.rd
  have lt := h.lt
  have lz := ob_lt h.oz
  have le := ob_lt h.ob
  obtain ⟨v', w', hr, g1, g2⟩ := h.ow.append le (by have := h.tl; omega) (by omega) (KidsS.nil (S := fun b => Off (zb + 1) u b ∧ b ≠ eb)) (cp := cp) hE.c0 hE.c1 hE.c2 hE.c3 ty
  have own : ∀ j, u.ownBlock = some j → zb + 1 ≤ j ∧ j ≠ eb := fun j hj => by
    obtain ⟨xs, ho, _, hn⟩ := h.ow
    exact ⟨(World.ownsRow.lt ho j hj).1, fun e => hn (e ▸ hj)⟩
  obtain ⟨pv, nv, cv, rfl, _⟩ := g1.kids
  refine ⟨pv, nv, cv, w', hr, ob_keep h.ob (g2.block eb le (fun e => (own eb e.symm).2 rfl)), ob_keep h.oz (g2.block zb lz (fun e => by have := (own zb e.symm).1; omega)), g1.kids.turn (fun _ _ _ => rfl) (fun b hb _ => ⟨hb.1, hb.2⟩), ⟨q, rd_moved R (g2.block k (by omega) (fun e => by have := (own k e.symm).1; omega)) (fun j hj => g2.block j (by omega) (fun e => by have := (own j e.symm).1; omega)), hq⟩, ?_⟩
  exact h.tc.trans ⟨g2.os, g2.tape, g2.output, g2.size, fun j hj hjk => g2.block j (by omega) (fun e => by have := (own j e.symm).1; omega)⟩
end DX
end Go.Proofs.Ytlkompbigpbefab
