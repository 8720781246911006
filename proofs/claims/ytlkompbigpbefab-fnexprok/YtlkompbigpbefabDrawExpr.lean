/-
  Draws of trees: what is kept while a Kid is drawn and laid behind the others.
-/
import Derived.Test.YtlkompbigpbefabExprOwn
import Derived.Test.YtlkompbigpbefabExprCopy
import Derived.Test.YtlkompbigpbefabDrawBig
import Derived.Test.YtlkompbigpbefabLoose4
namespace Go.Proofs.Ytlkompbigpbefab
open Go.RowKit Go.Sort Go.Joins
set_option linter.unusedVariables false
set_option maxRecDepth 8000
namespace DX
open DK DW SK EM ER
theorem _root_.Go.World.setCell_size' (w : World) (a : Addr) (u : Value) : (w.setCell a u).heap.size = w.heap.size := by simp [World.setCell]
theorem ob_tch {w w' : World} {b k : Nat} {kk a c : Int} {v : Value} (h : Ob w b kk a c v) (x : Tch k w.heap.size w w') (hb : b ≠ k) : Ob w' b kk a c v := by
  have lt := SK.cell_lt h.e.c0
  exact ⟨⟨(x.cell lt hb).trans h.e.c0, (x.cell lt hb).trans h.e.c1, (x.cell lt hb).trans h.e.c2, (x.cell lt hb).trans h.e.c3⟩, fun o => (x.frozen lt hb).trans (h.f o)⟩
theorem ob_keep {w w' : World} {b : Nat} {kk a c : Int} {v : Value} (h : Ob w b kk a c v) (x : w'.heap[b]? = w.heap[b]?) : Ob w' b kk a c v :=
  ⟨⟨(World.cell?_of_block (w := w) x).trans h.e.c0, (World.cell?_of_block (w := w) x).trans h.e.c1, (World.cell?_of_block (w := w) x).trans h.e.c2, (World.cell?_of_block (w := w) x).trans h.e.c3⟩, fun o => (World.frozen?_of_block (w := w) x).trans (h.f o)⟩
theorem rd_moved {w w' : World} {k p : Nat} (h : Rd w k p) (hk : w'.heap[k]? = w.heap[k]?) (hj : ∀ j, j < k → w'.heap[j]? = w.heap[j]?) : Rd w' k p := by
  obtain ⟨a, len, cap, h0, h1, hf, hl, hB⟩ := h
  refine ⟨a, len, cap, (World.cell?_of_block (w := w) hk).trans h0, (World.cell?_of_block (w := w) hk).trans h1, (World.frozen?_of_block (w := w) hk).trans hf, hl, ?_⟩
  rcases hB with rfl | ⟨b, off, rfl, hb, hz⟩
  · exact .inl rfl
  · refine .inr ⟨b, off, rfl, hb, fun i hi => ?_⟩
    obtain ⟨z, z0, z1, hc⟩ := hz i hi
    exact ⟨z, z0, z1, (World.cell?_of_block (w := w) (hj b hb)).trans hc⟩
theorem ob_lt {w : World} {b : Nat} {kk a c : Int} {v : Value} (h : Ob w b kk a c v) : b < w.heap.size := SK.cell_lt h.e.c0
/-- A world of the region in which a Kid is drawn: so many operations are left; 'we' is the world of the call's entry, 'wb' that of the region's. -/
structure Wx (k M B b0 eb : Nat) (kd : Int) (v3 : Value) (t3 : F) (we wb : World) (f : Nat) where
  w : World
  rd : ∃ p, Rd w k p ∧ p + B * f ≤ M
  tc : Tch k eb we w
  sz : wb.heap.size ≤ w.heap.size
  ob : Ob w eb kd 0 0 v3
  oz : Ob w b0 0 0 0 (.slice none 0 0)
  ow : OwnX (eb + 1) w v3 t3
abbrev Cx (k M B b0 eb : Nat) (kd : Int) (v3 : Value) (t3 : F) (we wb : World) : Nat → World → Prop := fun f w' => ∃ q : Wx k M B b0 eb kd v3 t3 we wb f, w' = q.w
theorem Cx.mono {k M B b0 eb : Nat} {kd : Int} {v3 : Value} {t3 : F} {we wb : World} : ∀ f w, Cx k M B b0 eb kd v3 t3 we wb (f + 1) w → Cx k M B b0 eb kd v3 t3 we wb f w := by
  rintro f w ⟨q, rfl⟩
  obtain ⟨p, h1, h2⟩ := q.rd
  exact ⟨⟨q.w, ⟨p, h1, by rw [Nat.mul_add] at h2; omega⟩, q.tc, q.sz, q.ob, q.oz, q.ow⟩, rfl⟩
/-- What the call yields: an Expr, what is below it in other blocks. -/
def P6 (base : Nat) (v3 u : Value) (w : World) : Prop := ∃ (kk a c : Int) (s : F) (x : Value), u = exV kk a c x ∧ KidsS (Off base v3) w s x
/-- A row of one, the Expr in it. -/
def P7 (base : Nat) (v3 u : Value) (w : World) : Prop := ∃ (b cp : Nat) (kk a c : Int) (s : F) (x : Value), u = .slice (some ⟨b, 0, none⟩) 1 cp ∧ Off base v3 b ∧ Ex w b kk a c x ∧ KidsS (Off base v3) w s x
/-- The longer row. -/
def P8 (base : Nat) (n3 : Nat) (u : Value) (w : World) : Prop := ∃ s, OwnX base w u s ∧ s.len = n3 + 1
theorem P6.keep {base : Nat} {v3 u : Value} {w w' : World} (K : KeepS (Off base v3) w w') (h : P6 base v3 u w) : P6 base v3 u w' := by
  obtain ⟨kk, a, c, s, x, e, hx⟩ := h
  exact ⟨kk, a, c, s, x, e, hx.turn K fun _ h _ => h⟩
theorem P7.keep {base : Nat} {v3 u : Value} {w w' : World} (K : KeepS (Off base v3) w w') (h : P7 base v3 u w) : P7 base v3 u w' := by
  obtain ⟨b, cp, kk, a, c, s, x, e, ho, ⟨e0, e1, e2, e3⟩, hx⟩ := h
  exact ⟨b, cp, kk, a, c, s, x, e, ho, ⟨K.cell ho e0, K.cell ho e1, K.cell ho e2, K.cell ho e3⟩, hx.turn K fun _ h _ => h⟩
/-- What is known of what the operations yield. -/
def ndE (base : Nat) (v3 : Value) (n3 : Nat) : Nat → Option (Act → Value → World → Prop) := fun i =>
  if i = 6 then some (fun _ u w => P6 base v3 u w) else if i = 7 then some (fun _ u w => P7 base v3 u w) else if i = 8 then some (fun _ u w => P8 base n3 u w) else none
theorem ndE_local {ops : Array Oper} {base : Nat} {v3 : Value} {n3 : Nat} : LZ.Local ops (ndE base v3 n3) := by
  intro j Φ oj hn _ a dst v _
  unfold ndE at hn
  split at hn
  · cases hn; rfl
  · split at hn
    · cases hn; rfl
    · split at hn
      · cases hn; rfl
      · cases hn
/-- The call that draws the Kid. -/
theorem call_x {k M B b0 eb : Nat} {kd : Int} {v3 : Value} {t3 : F} {we wb : World} {f : Nat} {fn : FuncId} {args : Array Value} (q : Wx k M B b0 eb kd v3 t3 we wb (f + 1)) (hk : k < eb) (hb : eb + 1 ≤ wb.heap.size) (he : eb ≠ k) (hz : b0 ≠ k)
    (h3 : v3.ownBlock = none ∨ ∃ g, v3.ownBlock = some g ∧ g < wb.heap.size)
    (c : ∀ p, Rd q.w k p → p + B ≤ M → Calls Try.prog fn args q.w fun e w' => ∃ kk a c t u p', e = .returned (exV kk a c u) ∧ KidsS (fun b => q.w.heap.size ≤ b) w' t u ∧ Rd w' k p' ∧ p' ≤ p + B ∧ Tch k q.w.heap.size q.w w') :
    Calls Try.prog fn args q.w fun e w' => ∃ u, e = .returned u ∧ Cx k M B b0 eb kd v3 t3 we wb f w' ∧ P6 (eb + 1) v3 u w' := by
  obtain ⟨p, R, hp⟩ := q.rd
  rw [Nat.mul_add] at hp
  refine (c p R (by omega)).mono ?_
  rintro e w1 ⟨kk, a, c, t, u, p', rfl, K, R1, hq, T1⟩
  have T2 := q.tc.trans (T1.mono (by have := q.sz; omega))
  refine ⟨_, rfl, ⟨⟨w1, ⟨p', R1, by omega⟩, T2, Nat.le_trans q.sz T1.size, ob_tch q.ob T1 he, ob_tch q.oz T1 hz, q.ow.keep (keeps_tch T1 (by omega))⟩, rfl⟩, kk, a, c, t, u, rfl, K.turn (fun _ _ _ => rfl) fun b hb' _ => ⟨?_, ?_⟩⟩
  · have h1 : q.w.heap.size ≤ b := hb'
    have h2 := q.sz
    omega
  · have h1 : q.w.heap.size ≤ b := hb'
    have h2 := q.sz
    rcases h3 with h3 | ⟨g, h3, hg⟩
    · rw [h3]; intro e; cases e
    · rw [h3]; intro e; cases e; omega
/-- The new block with it. -/
theorem alloc_x {k M B b0 eb : Nat} {kd : Int} {v3 : Value} {t3 : F} {we wb : World} {f : Nat} (q : Wx k M B b0 eb kd v3 t3 we wb (f + 1)) (hk : k < eb) (hb : eb + 1 ≤ wb.heap.size)
    (h3 : v3.ownBlock = none ∨ ∃ g, v3.ownBlock = some g ∧ g < wb.heap.size) (kk a c : Int) {s : F} {x : Value} (hx : KidsS (Off (eb + 1) v3) q.w s x) (t : TypeId) (n : Nat) (hn : n = q.w.heap.size) :
    Cx k M B b0 eb kd v3 t3 we wb f (q.w.alloc (.cells #[.int .i64 kk, .int .i64 a, .int .i64 c, x] t)) ∧
    P7 (eb + 1) v3 (.slice (some ⟨n, 0, none⟩) 1 1) (q.w.alloc (.cells #[.int .i64 kk, .int .i64 a, .int .i64 c, x] t)) ∧ KeepS (Off (eb + 1) v3) q.w (q.w.alloc (.cells #[.int .i64 kk, .int .i64 a, .int .i64 c, x] t)) := by
  subst hn
  obtain ⟨p, R, hp⟩ := q.rd
  rw [Nat.mul_add] at hp
  have Bn := below_new q.w (.cells #[.int .i64 kk, .int .i64 a, .int .i64 c, x] t)
  have K : ∀ S, KeepS S q.w (q.w.alloc (.cells #[.int .i64 kk, .int .i64 a, .int .i64 c, x] t)) := fun S b _ hl => Bn.block b hl
  have s1 := q.sz
  refine ⟨⟨⟨_, ⟨p, R.alloc _, by omega⟩, q.tc.alloc (by omega) _, by rw [size_new]; omega, q.ob.kept Bn, q.oz.kept Bn, q.ow.keep (K _)⟩, rfl⟩, ⟨q.w.heap.size, 1, kk, a, c, s, x, rfl, ⟨by omega, ?_⟩, Ex.new q.w kk a c x t, hx.turn (K _) fun _ h _ => h⟩, K _⟩
  rcases h3 with h3 | ⟨g, h3, hg⟩
  · rw [h3]; intro e; cases e
  · rw [h3]; intro e; cases e; omega
/-- 'append'. -/
theorem app_x {k M B b0 eb : Nat} {kd : Int} {v3 : Value} {t3 : F} {we wb : World} {f : Nat} (q : Wx k M B b0 eb kd v3 t3 we wb (f + 1)) (hk : k < eb) (hb : eb + 1 ≤ wb.heap.size) (he : v3.ownBlock ≠ some eb) (hz : v3.ownBlock ≠ some b0) (hl : t3.len ≤ 1000)
    {b cp : Nat} {kk a c : Int} {s : F} {x : Value} (hO : Off (eb + 1) v3 b) (hE : Ex q.w b kk a c x) (hx : KidsS (Off (eb + 1) v3) q.w s x) (ty : TypeId) :
    ∃ v' w', (Builtin.append_ #[23, 23] ty #[v3, .slice (some ⟨b, 0, none⟩) 1 cp]).run Try.prog q.w = .ok v' w' ∧ Cx k M B b0 eb kd v3 t3 we wb f w' ∧ P8 (eb + 1) t3.len v' w' ∧ KeepS (Off (eb + 1) v3) q.w w' := by
  have s1 := q.sz
  obtain ⟨v', w', hr, g1, g2, g3⟩ := own_append q.ow hl (by omega) hx hE.c0 hE.c1 hE.c2 hE.c3 ty
  obtain ⟨p, R, hp⟩ := q.rd
  rw [Nat.mul_add] at hp
  have K : KeepS (Off (eb + 1) v3) q.w w' := fun b' hb' hlt => g3.block b' hlt (fun e => hb'.2 e.symm)
  have own : ∀ j, v3.ownBlock = some j → eb + 1 ≤ j := fun j hj => by
    obtain ⟨xs, ho, _⟩ := q.ow
    exact (World.ownsRow.lt ho j hj).1
  have R' : Rd w' k p := by
    have hkk : k < q.w.heap.size := by omega
    have hb' : w'.heap[k]? = q.w.heap[k]? := g3.block k hkk (fun e => by have := own k e.symm; omega)
    exact rd_moved R hb' (fun j hj => g3.block j (by omega) (fun e => by have := own j e.symm; omega))
  have T' : Tch k eb we w' := ⟨g3.os.trans q.tc.os, g3.tape.trans q.tc.tape, g3.output.trans q.tc.output, Nat.le_trans q.tc.size g3.size, fun j hj hjk => (g3.block j (by omega) (fun e => by have := own j e.symm; omega)).trans (q.tc.block j hj hjk)⟩
  exact ⟨v', w', hr, ⟨⟨w', ⟨p, R', by omega⟩, T', Nat.le_trans q.sz g3.size, ob_keep q.ob (g3.block eb (ob_lt q.ob) (fun e => he e.symm)), ob_keep q.oz (g3.block b0 (ob_lt q.oz) (fun e => hz e.symm)), g2⟩, rfl⟩, ⟨_, g1, snoc_len _ _ _ _ _⟩, K⟩
/-- 'append' as an operation. -/
theorem run_app {P : Program} {a : Act} {o : Oper} {s x : Operand} {T : TypeId} {v3 u v' : Value} {w w' : World} (ho : o.op = .call { callee := .builtin .append, args := #[s, x], argTypes := #[T, T] }) (hs : a.eval s = v3) (hx : a.eval x = u)
    (hr : (Builtin.append_ #[T, T] o.type #[v3, u]).run P w = .ok v' w') : (execOp a.eval o).run P w = .ok (.value v') w' := by
  unfold execOp
  simp only [ho, resolve, invoke, builtin, Sem.run_bind, Sem.run_pure, Result.andThen_ok, List.map_toArray, List.map_cons, List.map_nil, hs, hx, hr]
theorem nd_of {P : Program} {C : Nat → World → Prop} {kn : List (World → Prop)} {f : Nat} {w w' : World} {Φ : Value → World → Prop} {r : Result Next} {v' : Value} (e : r = .ok (.value v') w') (h : C f w' ∧ Φ v' w' ∧ LZ.KeepsK kn w w') : LZ.ndUpon P C kn f w Φ r := by
  subst e
  exact h
theorem form_x {base : Nat} {w : World} {u : Value} {t : F} {n : Nat} (h : OwnX base w u t) (hl : t.len = n + 1) : ∃ g cap, u = .slice (some ⟨g, 0, none⟩) (n + 1) cap ∧ base ≤ g ∧ g < w.heap.size := by
  obtain ⟨xs, ⟨h1, ⟨rfl, h2⟩ | ⟨g, cap, cur, rfl, hb, hg, r⟩⟩, hr⟩ := h
  · omega
  · exact ⟨g, cap, by rw [hl], hb, (Array.getElem?_eq_some_iff.1 hg).1⟩
/-- The longer row is laid into the Expr. -/
theorem stored_x {k M B b0 eb : Nat} {kd : Int} {v3 u : Value} {t3 s : F} {we wb : World} (q : Wx k M B b0 eb kd v3 t3 we wb 0) (hk : k < eb) (hz : b0 ≠ eb) (ho : OwnX (eb + 1) q.w u s) :
    ∃ p, p ≤ M ∧ Rd (q.w.setCell ⟨eb, 3, none⟩ u) k p ∧ Tch k eb we (q.w.setCell ⟨eb, 3, none⟩ u) ∧ Ob (q.w.setCell ⟨eb, 3, none⟩ u) eb kd 0 0 u ∧ Ob (q.w.setCell ⟨eb, 3, none⟩ u) b0 0 0 0 (.slice none 0 0) ∧ OwnX (eb + 1) (q.w.setCell ⟨eb, 3, none⟩ u) u s := by
  obtain ⟨p, R, hp⟩ := q.rd
  have other : ∀ b, b ≠ eb → (q.w.setCell ⟨eb, 3, none⟩ u).heap[b]? = q.w.heap[b]? := fun b hb => Below.heap_setCell _ _ _ _ hb
  obtain ⟨⟨e0, e1, e2, e3⟩, ef⟩ := q.ob
  refine ⟨p, by omega, rd_moved R (other k (by omega)) (fun j hj => other j (by omega)), q.tc.trans (Tch.ofBelow ((Below.refl eb _).setCell (Nat.le_refl _) _)), ⟨⟨?_, ?_, ?_, ?_⟩, fun o => ?_⟩, ob_keep q.oz (other b0 hz), ho.keep fun b hb _ => other b (by have : eb + 1 ≤ b := hb; omega)⟩
  · simp [go_sem, *]
  · simp [go_sem, *]
  · simp [go_sem, *]
  · simp [go_sem, *]
  · simp [go_sem, *]
end DX
end Go.Proofs.Ytlkompbigpbefab
