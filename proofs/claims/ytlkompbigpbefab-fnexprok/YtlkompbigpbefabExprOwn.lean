/-
  Rows of Exprs of the call's own: one more behind them, the old row kept.
-/
import Derived.Test.YtlkompbigpbefabExprFresh
import Derived.Test.YtlkompbigpbefabDrawKit
import Derived.Laws.AppendOwn
import Derived.OwnWalk
import Derived.Lib.SmallJoins
namespace Go.Proofs.Ytlkompbigpbefab
open Go.RowKit Go.Joins
set_option linter.unusedVariables false
set_option maxRecDepth 8000
namespace ER
open EM SK
/-- 'append' to an own row: the old row is still owned as it was. -/
theorem append_keep {P : Program} (w : World) (base : Nat) (t ty e : TypeId) (i : TypeInfo) (z : Value) (size bytes : Nat) (ht : P.underlying t = some (.slice e)) (hi : P.info? e = some i) (hz : i.zero = some z)
    (hsize : i.size = size) (hby : i.bytes = bytes) (hzs : z.cells.size = size) (hsz : 0 < size)
    (v : Value) (n : Nat) (xs : List Value) (hown : w.ownsRow base e size v n xs)
    (a : Addr) (m c : Nat) (news : List Value) (hl : news.length = m * size) (hnews : ∀ j u, news[j]? = some u → w.cell? (a.add j) = some u) (h1 : ∀ u ∈ news, u.oneCell' = true)
    (h63 : n + m ≤ maxLen) (hbytes : (n + m) * bytes ≤ 140737488355328) (hbase : base ≤ w.heap.size) :
    ∃ v' w', (Builtin.append_ #[t, t] ty #[v, .slice (some a) m c]).run P w = .ok v' w' ∧ w'.ownsRow base e size v' (n + m) (xs ++ news) ∧ w.grownBy w' v.ownBlock ∧ w'.ownsRow base e size v n xs ∧ (v'.ownBlock = v.ownBlock ∨ v'.ownBlock = some w.heap.size) := by
  obtain ⟨v', w', hr, h2, h3, h4⟩ := run_append_own (P := P) w base t ty e i z size bytes ht hi hz hsize hby hzs hsz v n xs hown a m c news hl hnews h1 h63 hbytes hbase
  refine ⟨v', w', hr, h2, h3, ?_⟩
  subst hsize
  rcases hown.2 with ⟨rfl, rfl⟩ | ⟨g, cap, cur, rfl, hbg, hg, hnc, hcm, hcs, htake⟩
  · refine ⟨⟨hown.1, .inl ⟨rfl, rfl⟩⟩, ?_⟩
    by_cases hm : m = 0
    · subst hm
      have hn : news = [] := List.eq_nil_of_length_eq_zero (by simpa using hl)
      subst hn
      have hr' : (Builtin.append_ #[t, t] ty #[.slice none 0 0, .slice (some a) 0 c]).run P w = .ok (.slice none 0 0) w := by
        simp [Builtin.append_, run_underlying ht, sizeOf, typeInfo, hi, Builtin.lenOf, Builtin.firstCells, loadCells, loadCellsFrom]
      rw [hr'] at hr
      cases hr
      exact .inl rfl
    · have hr' := run_append_nil (P := P) w t ty e i z ht hi hz a m c news hl hnews (by omega) (by simp only [maxLen] at h63; omega) (by have hb := hbytes; simp only [Nat.zero_add] at hb; rw [hby]; omega)
      rw [hr'] at hr
      cases hr
      exact .inr rfl
  · by_cases hroom : n + m ≤ cap
    · have hfit : n * i.size + news.length ≤ cur.size := by rw [hl, hcs, ← Nat.add_mul]; exact Nat.mul_le_mul_right _ hroom
      have hr' := run_append_room (P := P) w t ty e i ht hi g n cap cur hg a m c news hl hnews h1 hroom hfit
      rw [hr'] at hr
      cases hr
      refine ⟨⟨hown.1, .inr ⟨g, cap, _, rfl, hbg, setRow_heap w g cur _ e _ hg, hnc, hcm, ?_, ?_⟩⟩, .inl rfl⟩
      · simp only [List.size_toArray, List.length_append, List.length_take, List.length_drop, Array.length_toList]
        omega
      · have hx : (cur.toList.take (n * i.size)).length = n * i.size := by rw [htake, hown.1]
        simp only [List.append_assoc]
        rw [List.take_append_of_le_length (by omega), List.take_of_length_le (by omega)]
        exact htake
    · have holds : ∀ j u, xs[j]? = some u → w.cell? ((⟨g, 0, none⟩ : Addr).add j) = some u := hown.cells (g := g) rfl
      have hsmall : n + m ≤ 9223372036854775807 := by simp only [maxLen] at h63; omega
      have hr' := run_append_grow (P := P) w t ty e i z ht hi hz ⟨g, 0, none⟩ n cap xs hown.1 holds a m c news hl hnews (by omega) (by omega) (growslice_fits (by omega) (by rw [hby]; exact hbytes))
      rw [hr'] at hr
      cases hr
      refine ⟨⟨hown.1, .inr ⟨g, cap, cur, rfl, hbg, ?_, hnc, hcm, hcs, htake⟩⟩, .inr rfl⟩
      rw [← hg]
      exact heap_alloc_old w.drew _ (by have := (Array.getElem?_eq_some_iff.1 hg).1; exact this)
/-- Nodes beside each other, and all below them, in blocks of a kind. -/
def RowS (S : Nat → Prop) (w : World) : F → Nat → Nat → Prop
  | .nil, _, _ => True
  | .cons k a c t r, b, o => (w.cell? ⟨b, o, none⟩ = some (.int .i64 k) ∧ w.cell? ⟨b, o + 1, none⟩ = some (.int .i64 a) ∧ w.cell? ⟨b, o + 2, none⟩ = some (.int .i64 c)) ∧
      (∃ p n cap, w.cell? ⟨b, o + 3, none⟩ = some (.slice p n cap) ∧ n = t.len ∧ (t.len = 0 ∨ ∃ b' o', p = some ⟨b', o', none⟩ ∧ S b' ∧ RowS S w t b' o')) ∧ RowS S w r b (o + 4)
def KidsS (S : Nat → Prop) (w : World) (t : F) (v : Value) : Prop := ∃ p n cap, v = .slice p n cap ∧ n = t.len ∧ (t.len = 0 ∨ ∃ b' o', p = some ⟨b', o', none⟩ ∧ S b' ∧ RowS S w t b' o')
/-- The blocks of a kind that lay there lie as they lay. -/
def KeepS (S : Nat → Prop) (w w' : World) : Prop := ∀ k, S k → k < w.heap.size → w'.heap[k]? = w.heap[k]?
theorem KeepS.cell {S : Nat → Prop} {w w' : World} (h : KeepS S w w') {b o : Nat} {v : Value} (hb : S b) (c : w.cell? ⟨b, o, none⟩ = some v) : w'.cell? ⟨b, o, none⟩ = some v :=
  (World.cell?_of_block (w := w) (h b hb (cell_lt c))).trans c
theorem RowS.row {S : Nat → Prop} {w : World} : ∀ {t : F} {b o : Nat}, RowS S w t b o → Row w t b o
  | .nil, _, _, _ => trivial
  | .cons k a c t r, b, o, ⟨h1, ⟨p, n, cap, h4, h5, h6⟩, h7⟩ => by
    refine ⟨h1, ⟨p, n, cap, h4, h5, ?_⟩, RowS.row h7⟩
    rcases h6 with h6 | ⟨b', o', e, _, h6⟩
    · exact .inl h6
    · exact .inr ⟨b', o', e, RowS.row h6⟩
theorem KidsS.kids {S : Nat → Prop} {w : World} {t : F} {v : Value} (h : KidsS S w t v) : Kids w t v := by
  obtain ⟨p, n, cap, rfl, h5, h6⟩ := h
  refine ⟨p, n, cap, rfl, h5, ?_⟩
  rcases h6 with h6 | ⟨b', o', e, _, h6⟩
  · exact .inl h6
  · exact .inr ⟨b', o', e, h6.row⟩
/-- What is kept, what is weakened, and that all lies within the heap, at once. -/
theorem RowS.turn {S S' : Nat → Prop} {w w' : World} (h : KeepS S w w') (g : ∀ b, S b → b < w.heap.size → S' b) : ∀ {t : F} {b o : Nat}, S b → RowS S w t b o → RowS S' w' t b o
  | .nil, _, _, _, _ => trivial
  | .cons k a c t r, b, o, hb, ⟨⟨h1, h2, h3⟩, ⟨p, n, cap, h4, h5, h6⟩, h7⟩ => by
    refine ⟨⟨h.cell hb h1, h.cell hb h2, h.cell hb h3⟩, ⟨p, n, cap, h.cell hb h4, h5, ?_⟩, RowS.turn h g hb h7⟩
    rcases h6 with h6 | ⟨b', o', e, hl, h6⟩
    · exact .inl h6
    · by_cases hz : t.len = 0
      · exact .inl hz
      · refine .inr ⟨b', o', e, g b' hl ?_, RowS.turn h g hl h6⟩
        match t, hz, h6 with
        | .nil, hz, _ => exact absurd rfl hz
        | .cons _ _ _ _ _, _, h6 => exact cell_lt h6.1.1
theorem KidsS.turn {S S' : Nat → Prop} {w w' : World} {t : F} {v : Value} (k : KidsS S w t v) (h : KeepS S w w') (g : ∀ b, S b → b < w.heap.size → S' b) : KidsS S' w' t v := by
  obtain ⟨p, n, cap, rfl, h5, h6⟩ := k
  refine ⟨p, n, cap, rfl, h5, ?_⟩
  rcases h6 with h6 | ⟨b', o', e, hl, h6⟩
  · exact .inl h6
  · by_cases hz : t.len = 0
    · exact .inl hz
    · refine .inr ⟨b', o', e, g b' hl ?_, RowS.turn h g hl h6⟩
      match t, hz, h6 with
      | .nil, hz, _ => exact absurd rfl hz
      | .cons _ _ _ _ _, _, h6 => exact cell_lt h6.1.1
theorem KidsS.nil {S : Nat → Prop} {w : World} : KidsS S w .nil (.slice none 0 0) := ⟨_, _, _, rfl, rfl, .inl rfl⟩
/-- Nodes, cell by cell, what is below them in blocks of a kind. -/
def RowL (S : Nat → Prop) (w : World) : F → List Value → Prop
  | .nil, xs => xs = []
  | .cons k a c s r, xs => ∃ v ys, xs = .int .i64 k :: .int .i64 a :: .int .i64 c :: v :: ys ∧ KidsS S w s v ∧ RowL S w r ys
/-- A node more at the end. -/
def snoc : F → Int → Int → Int → F → F
  | .nil, k, a, c, s => .cons k a c s .nil
  | .cons k' a' c' s' r, k, a, c, s => .cons k' a' c' s' (snoc r k a c s)
theorem snoc_len : ∀ (t : F) (k a c : Int) (s : F), (snoc t k a c s).len = t.len + 1
  | .nil, _, _, _, _ => rfl
  | .cons _ _ _ _ r, k, a, c, s => by simp only [snoc, F.len, snoc_len r]
theorem RowL.len {S : Nat → Prop} {w : World} : ∀ {t : F} {xs : List Value}, RowL S w t xs → xs.length = t.len * 4
  | .nil, xs, h => by rw [show xs = [] from h]; rfl
  | .cons k a c s r, xs, h => by
    obtain ⟨v, ys, rfl, _, h2⟩ := h
    simp only [List.length_cons, F.len, h2.len]
    omega
theorem RowL.snoc {S : Nat → Prop} {w : World} {k a c : Int} {s : F} {v : Value} (hs : KidsS S w s v) : ∀ {t : F} {xs : List Value}, RowL S w t xs → RowL S w (snoc t k a c s) (xs ++ [.int .i64 k, .int .i64 a, .int .i64 c, v])
  | .nil, xs, h => by rw [show xs = [] from h]; exact ⟨v, [], rfl, hs, rfl⟩
  | .cons _ _ _ _ r, xs, h => by
    obtain ⟨u, ys, rfl, h1, h2⟩ := h
    exact ⟨u, ys ++ [.int .i64 k, .int .i64 a, .int .i64 c, v], rfl, h1, RowL.snoc hs h2⟩
theorem RowL.turn {S S' : Nat → Prop} {w w' : World} (h : KeepS S w w') (g : ∀ b, S b → b < w.heap.size → S' b) : ∀ {t : F} {xs : List Value}, RowL S w t xs → RowL S' w' t xs
  | .nil, xs, k => k
  | .cons _ _ _ _ r, xs, k => by
    obtain ⟨u, ys, rfl, h1, h2⟩ := k
    exact ⟨u, ys, rfl, h1.turn h g, RowL.turn h g h2⟩
theorem RowL.cell1 {S : Nat → Prop} {w : World} : ∀ {t : F} {xs : List Value}, RowL S w t xs → ∀ u ∈ xs, u.oneCell' = true
  | .nil, xs, h, u, hu => by rw [show xs = [] from h] at hu; cases hu
  | .cons _ _ _ _ r, xs, h, u, hu => by
    obtain ⟨v, ys, rfl, ⟨p, n, cap, rfl, _⟩, h2⟩ := h
    simp only [List.mem_cons] at hu
    rcases hu with rfl | rfl | rfl | rfl | hu
    · rfl
    · rfl
    · rfl
    · rfl
    · exact RowL.cell1 h2 u hu
theorem RowL.row {S : Nat → Prop} {w : World} {g : Nat} {cur : Array Value} {ty : TypeId} (hg : w.heap[g]? = some (.cells cur ty (0, 0))) : ∀ {t : F} {xs : List Value} {o : Nat}, RowL S w t xs → (∀ j u, xs[j]? = some u → cur[o + j]? = some u) → RowS S w t g o
  | .nil, _, _, _, _ => trivial
  | .cons k a c s r, xs, o, h, hx => by
    obtain ⟨v, ys, rfl, ⟨p, n, cap, rfl, h5, h6⟩, h2⟩ := h
    have ce : ∀ j, w.cell? ⟨g, j, none⟩ = cur[j]? := fun j => cell_of_block hg j
    refine ⟨⟨?_, ?_, ?_⟩, ⟨p, n, cap, ?_, h5, h6⟩, RowL.row hg h2 fun j u hu => ?_⟩
    · rw [ce]; exact hx 0 _ rfl
    · rw [ce]; exact hx 1 _ rfl
    · rw [ce]; exact hx 2 _ rfl
    · rw [ce]; exact hx 3 _ rfl
    · have := hx (j + 4) u (by simpa using hu)
      rw [show o + 4 + j = o + (j + 4) by omega]
      exact this
/-- Blocks from the base on, but the one that this slice lies in. -/
def Off (base : Nat) (u : Value) (b : Nat) : Prop := base ≤ b ∧ u.ownBlock ≠ some b
/-- A row of Exprs of the call's own, what is below it in other blocks. -/
def OwnX (base : Nat) (w : World) (u : Value) (t : F) : Prop := ∃ xs, w.ownsRow base 25 4 u t.len xs ∧ RowL (Off base u) w t xs
theorem OwnX.kids {base : Nat} {w : World} {u : Value} {t : F} (h : OwnX base w u t) : KidsS (fun b => base ≤ b) w t u := by
  obtain ⟨xs, ⟨h1, ⟨rfl, h2⟩ | ⟨g, cap, cur, rfl, hb, hg, hn, hm, hs, ht⟩⟩, hr⟩ := h
  · exact ⟨_, _, _, rfl, h2.symm, .inl h2⟩
  · have hr' : RowL (fun b => base ≤ b) w t xs := hr.turn (fun _ _ _ => rfl) (fun b hb _ => hb.1)
    refine ⟨_, _, _, rfl, rfl, .inr ⟨g, 0, rfl, hb, hr'.row hg fun j u hu => ?_⟩⟩
    rw [Nat.zero_add]
    rw [← ht] at hu
    have := List.getElem?_take (l := cur.toList) (i := t.len * 4) (j := j)
    rw [this] at hu
    split at hu
    · simpa using hu
    · cases hu
theorem OwnX.keep {base : Nat} {w w' : World} {u : Value} {t : F} (k : OwnX base w u t) (h : KeepS (fun b => base ≤ b) w w') : OwnX base w' u t := by
  obtain ⟨xs, ⟨h1, h2 | ⟨g, cap, cur, rfl, hb, hg, r⟩⟩, hr⟩ := k
  · exact ⟨xs, ⟨h1, .inl h2⟩, hr.turn (fun b hb => h b hb.1) (fun _ hb _ => hb)⟩
  · exact ⟨xs, ⟨h1, .inr ⟨g, cap, cur, rfl, hb, (h g hb (Array.getElem?_eq_some_iff.1 hg).1).trans hg, r⟩⟩, hr.turn (fun b hb => h b hb.1) (fun _ hb _ => hb)⟩
theorem OwnX.weak {base base' : Nat} {w : World} {u : Value} {t : F} (hb : base ≤ base') (k : OwnX base' w u t) : OwnX base w u t := by
  obtain ⟨xs, ⟨h1, h2 | ⟨g, cap, cur, rfl, hg, r⟩⟩, hr⟩ := k
  · exact ⟨xs, ⟨h1, .inl h2⟩, hr.turn (fun _ _ _ => rfl) (fun b hb' _ => ⟨Nat.le_trans hb hb'.1, hb'.2⟩)⟩
  · exact ⟨xs, ⟨h1, .inr ⟨g, cap, cur, rfl, Nat.le_trans hb hg, r⟩⟩, hr.turn (fun _ _ _ => rfl) (fun b hb' _ => ⟨Nat.le_trans hb hb'.1, hb'.2⟩)⟩
theorem OwnX.nil {base : Nat} {w : World} : OwnX base w (.slice none 0 0) .nil := ⟨[], ⟨rfl, .inl ⟨rfl, rfl⟩⟩, rfl⟩
theorem keeps_tch {k base : Nat} {w w' : World} (h : DK.Tch k w.heap.size w w') (hk : k < base) : KeepS (fun b => base ≤ b) w w' := fun b hb hl => h.block b hl (by have : base ≤ b := hb; omega)
theorem infoX : (Try.prog.info? 25).map (fun i => (i.zero, i.size, i.bytes)) = some (some (exV 0 0 0 (.slice none 0 0)), 4, 48) := by kernel_rfl
/-- An Expr more behind an own row; the old row is kept. 'b0' is the block in which the new one lies. -/
theorem own_append {w : World} {base : Nat} {u : Value} {t : F} (h : OwnX base w u t) (hl : t.len ≤ 1000) (hbase : base ≤ w.heap.size) {k a c : Int} {s : F} {x : Value} (hx : KidsS (Off base u) w s x) {b0 cp : Nat}
    (c0 : w.cell? ⟨b0, 0, none⟩ = some (.int .i64 k)) (c1 : w.cell? ⟨b0, 1, none⟩ = some (.int .i64 a)) (c2 : w.cell? ⟨b0, 2, none⟩ = some (.int .i64 c)) (c3 : w.cell? ⟨b0, 3, none⟩ = some x) (ty : TypeId) :
    ∃ v' w', (Builtin.append_ #[23, 23] ty #[u, .slice (some ⟨b0, 0, none⟩) 1 cp]).run Try.prog w = .ok v' w' ∧ OwnX base w' v' (snoc t k a c s) ∧ OwnX base w' u t ∧ w.grownBy w' u.ownBlock := by
  obtain ⟨xs, ho, hr⟩ := h
  obtain ⟨i0, hi, hz0, hz1, hz2⟩ := info_parts infoX
  obtain ⟨p, n, cap, rfl, h5, h6⟩ := hx
  obtain ⟨v', w', hrun, g1, g2, g3, g4⟩ := append_keep w base 23 ty 25 i0 (exV 0 0 0 (.slice none 0 0)) 4 48 Try.underlying23 hi hz0 hz1 hz2 rfl (by decide) u t.len xs ho ⟨b0, 0, none⟩ 1 cp [.int .i64 k, .int .i64 a, .int .i64 c, .slice p n cap] rfl
    (fun j y hy => by
      match j, hy with
      | 0, hy => cases hy; exact c0
      | 1, hy => cases hy; exact c1
      | 2, hy => cases hy; exact c2
      | 3, hy => cases hy; exact c3
      | j + 4, hy => cases hy)
    (fun y hy => by
      simp only [List.mem_cons, List.not_mem_nil, or_false] at hy
      rcases hy with rfl | rfl | rfl | rfl <;> rfl)
    (by simp only [maxLen]; omega) (by omega) hbase
  have K : KeepS (Off base u) w w' := fun b hb hlt => g2.block b hlt (fun e => hb.2 e.symm)
  have W : ∀ b, Off base u b → b < w.heap.size → Off base v' b := fun b hb hlt => ⟨hb.1, fun e => by
    rcases g4 with g4 | g4
    · exact hb.2 (g4 ▸ e)
    · rw [g4] at e
      cases e
      omega⟩
  refine ⟨v', w', hrun, ⟨_, by rw [snoc_len]; exact g1, RowL.snoc (KidsS.turn ⟨p, n, cap, rfl, h5, h6⟩ K W) (hr.turn K W)⟩, ⟨xs, g3, hr.turn K (fun _ hb _ => hb)⟩, g2⟩
end ER
end Go.Proofs.Ytlkompbigpbefab
