/-
  Sines of halves that were reckoned, kept in a map.
-/
import Derived.Test.YtfdkpcejjcifgauDoorSineImpl
import Derived.Test.YtfdkpcejjcifgauDoorDrawKit
import Derived.Maps.OwnSet
namespace Go.Proofs.YtfdkpcejjcifgauDoor
open Go.RowKit Go.Sort Go.Maps
set_option linter.unusedVariables false
namespace SK
/-- How an element reads: a span by its ends. -/
def spElem : Value → Option (DataW Unit × List MemPlace)
  | .agg cs => match cs.toList with
    | [.int .i64 x, .int .i64 y] => some (.agg [.lit (.int .i64 x), .lit (.int .i64 y)], [])
    | _ => none
  | _ => none
theorem spElem_mk (x y : Int) : spElem (spV x y) = some (.agg [.lit (.int .i64 x), .lit (.int .i64 y)], []) := rfl
theorem spElem_inv {v : Value} {z : DataW Unit × List MemPlace} (h : spElem v = some z) : ∃ x y : Int, v = spV x y ∧ z = (.agg [.lit (.int .i64 x), .lit (.int .i64 y)], []) := by
  unfold spElem at h
  split at h
  · rename_i cs
    split at h
    · rename_i x y e
      cases h
      refine ⟨x, y, ?_, rfl⟩
      have : cs = #[.int .i64 x, .int .i64 y] := by
        obtain ⟨l⟩ := cs
        simp only at e
        rw [e]
      rw [this]
    · cases h
  · cases h
def kk (h : Int) : Lit := .int .i64 h
def rd (x y : Int) : DataW Unit := .agg [.lit (.int .i64 x), .lit (.int .i64 y)]
theorem keyed : Keyed Tryd.prog 3 := int_keyed Tryd.underlying3
theorem zeroSp (w : World) : (zeroValue 34).run Tryd.prog w = .ok (spV 0 0) w := by kernel_rfl
/-- The map in block 'b': what is kept there is right. -/
def Memo (w : World) (b n : Nat) : Prop := ∃ D : DataW Unit, w.ownsMap Tryd.prog 3 spElem b n D ∧ ∀ h : Int, Maps.has D (kk h) = true → D.atKey (kk h) (rd 0 0) = rd (SI.siL h) (SI.siH h)
theorem Memo.of_block {w w' : World} {b n : Nat} (h : Memo w b n) (e : w'.heap[b]? = w.heap[b]?) : Memo w' b n := by
  obtain ⟨D, ⟨es, clock, h1, h2⟩, r⟩ := h
  exact ⟨D, ⟨es, clock, e.trans h1, h2⟩, r⟩
theorem Memo.lt {w : World} {b n : Nat} (h : Memo w b n) : b < w.heap.size := by
  obtain ⟨D, h1, _⟩ := h
  exact h1.lt
theorem Memo.kept {w w' : World} {b n : Nat} (h : Memo w b n) (k : Below w.heap.size w w') : Memo w' b n := h.of_block (k.block b h.lt)
theorem Memo.alloc {w : World} {b n : Nat} (h : Memo w b n) (o : Obj) : Memo (w.alloc o) b n := h.kept (below_new _ _)
theorem rd_inj {x y x' y' : Int} (h : rd x y = rd x' y') : x = x' ∧ y = y' := by
  unfold rd at h
  injection h with h
  injection h with h1 h2
  injection h2 with h2 _
  injection h1 with h1
  injection h2 with h2
  injection h1 with _ h1
  injection h2 with _ h2
  exact ⟨h1, h2⟩
/-- The look-up, the value's shape written out. -/
theorem look_span {P : Program} (w : World) {ops : Array Oper} {rest : List Oper} {o : Oper} {a : Act} {Q : Exit → Act → World → Prop} (hg : o.guard = none) (m x : Operand) (t : TypeId) (hop : o.op = Op.lookup t m x true)
    (k e : TypeId) (K : Keyed P k) (ht : P.underlying t = some (.map k e)) (hz : (zeroValue e).run P w = .ok (spV 0 0) w) (b n : Nat) (D : DataW Unit)
    (hm : a.eval m = .map (some b)) (hown : w.ownsMap P k spElem b n D) (key : Value) (kl : Lit) (hx : a.eval x = key) (hkey : keyOf P k key = some kl)
    (hK : ∀ x y : Int, D.atKey kl (rd 0 0) = rd x y → wpList P ops Q rest (a.put o.dst (.tuple #[spV x y, .bool (Maps.has D kl)])) w) :
    wpList P ops Q (o :: rest) a w :=
  wpList_lookup_own_ok w hg m x t hop k e K ht spElem hz (rd 0 0) [] rfl b n D hm hown key kl hx hkey (fun v ps hv => by
    obtain ⟨x, y, rfl, hc⟩ := spElem_inv hv
    exact hK x y (congrArg Prod.fst hc))
theorem Memo.put {w w' : World} {b n : Nat} {D : DataW Unit} (own : w.ownsMap Tryd.prog 3 spElem b n D) (right : ∀ h : Int, Maps.has D (kk h) = true → D.atKey (kk h) (rd 0 0) = rd (SI.siL h) (SI.siH h)) (h : Int)
    (own' : w'.ownsMap Tryd.prog 3 spElem b (n + 1) (D.put (.int .i64 h) (rd (SI.siL h) (SI.siH h)))) : Memo w' b (n + 1) := by
  refine ⟨_, own', fun g hg => ?_⟩
  by_cases e : g = h
  · subst e
    exact atKey_put_same (k := .int .i64 g) own.isMap trivial _ _
  · have ne : kk g ≠ Lit.int .i64 h := fun z => by
      unfold kk at z
      injection z with _ z
      exact e z
    rw [atKey_put_other ne]
    rw [has_put_other ne] at hg
    exact right g hg
theorem boxGrown {w w' : World} {b c : Nat} {x y : Int} (X : Box w c x y) (g : w.grownBy w' (some b)) (ne : c ≠ b) : Box w' c x y := by
  have e : w'.heap[c]? = w.heap[c]? := g.block c X.lt (fun z => ne (Option.some.inj z))
  exact ⟨(World.cell?_of_block (w := w) e).trans X.c0, (World.cell?_of_block (w := w) e).trans X.c1, (World.frozen?_of_block (w := w) e).trans X.f0, (World.frozen?_of_block (w := w) e).trans X.f1⟩
theorem tchGrown {w0 w w' : World} {b n : Nat} (t : DK.Tch b n w0 w) (hn : n ≤ w.heap.size) (g : w.grownBy w' (some b)) : DK.Tch b n w0 w' :=
  t.trans ⟨g.os, g.tape, g.output, g.size, fun j hj ne => g.block j (Nat.lt_of_lt_of_le hj hn) (fun z => ne (Option.some.inj z))⟩
set_option maxRecDepth 20000 in
set_option maxHeartbeats 2000000 in
theorem memo_any (h : Int) (b n : Nat) (w : World) (M : Memo w b n) (hn : n ≤ 1000) (h0 : -3000000000000 ≤ h) (h1 : h ≤ 3000000000000) :
    Calls Tryd.prog 18 #[.map (some b), .int .i64 h] w fun e w' => e = .returned (spV (SI.siL h) (SI.siH h)) ∧ Memo w' b (n + 1) ∧ DK.Tch b w.heap.size w w' := by
  have S := fun w => sineOfHalves_any h w h0 h1
  have hkey : keyOf Tryd.prog 3 (.int .i64 h) = some (.int .i64 h) := keyOf_int_mk Tryd.underlying3 (WalkArith.wf_i64 (by omega))
  obtain ⟨D, own, right⟩ := M
  have hb := own.lt
  have R := Box.new w 0 0 34
  have own1 := own.alloc (.cells #[.int .i64 0, .int .i64 0] 34)
  have T := (DK.Tch.refl b w.heap.size w).alloc (Nat.le_refl _) (.cells #[.int .i64 0, .int .i64 0] 34)
  cases hh : Maps.has D (.int .i64 h)
  · go_enter Tryd.func18, Tryd.ntmps18
    go_wp2_with (first | (at_lookup; refine look_span _ rfl _ _ 41 rfl 3 34 keyed Tryd.underlying41 (zeroSp _) b n D rfl own1 _ _ rfl hkey ?_; intro x y hat; clear hat) | fail)
    have Y := Box.new2 w (.cells #[.int .i64 0, .int .i64 0] 34) x y 34
    replace R := R.alloc (.cells #[.int .i64 x, .int .i64 y] 34)
    refine (S _).mono ?_
    rintro e w1 ⟨rfl, B1⟩
    have own2 : w1.ownsMap Tryd.prog 3 spElem b n D := by
      obtain ⟨es, clock, z1, z2⟩ := own1.alloc (.cells #[.int .i64 x, .int .i64 y] 34)
      exact ⟨es, clock, (B1.block b (by simp; omega)).trans z1, z2⟩
    replace R := R.kept B1
    replace Y := Y.kept B1
    replace T := (T.alloc (by simp) (.cells #[.int .i64 x, .int .i64 y] 34)).trans (DK.Tch.ofBelow (B1.mono (by simp; omega)))
    have hw := T.size
    have hY := Y.lt
    clear own1 B1
    have own3 : ((w1.setCell ⟨w.heap.size + 1, 0, none⟩ (.int .i64 (SI.siL h))).setCell ⟨w.heap.size + 1, 1, none⟩ (.int .i64 (SI.siH h))).ownsMap Tryd.prog 3 spElem b n D := by
      obtain ⟨es, clock, z1, z2⟩ := own2
      exact ⟨es, clock, ((Below.heap_setCell _ _ _ b (by simp; omega)).trans (Below.heap_setCell _ _ _ b (by simp; omega))).trans z1, z2⟩
    have X := Y.set (SI.siL h) (SI.siH h)
    have R' := (R.apart (c := w.heap.size + 1) (o := 0) (by omega) (.int .i64 (SI.siL h))).apart (c := w.heap.size + 1) (o := 1) (by omega) (.int .i64 (SI.siH h))
    have T3 : DK.Tch b w.heap.size w ((w1.setCell ⟨w.heap.size + 1, 0, none⟩ (.int .i64 (SI.siL h))).setCell ⟨w.heap.size + 1, 1, none⟩ (.int .i64 (SI.siH h))) := T.trans ⟨rfl, rfl, rfl, by simp [World.setCell], fun j hj _ => (Below.heap_setCell _ _ _ _ (by simp; omega)).trans (Below.heap_setCell _ _ _ _ (by simp; omega))⟩
    have ⟨Y0, Y1, Y2, Y3⟩ := Y
    go_wp2_with (first | (at_mapUpdate; refine wpList_mapUpdate_own _ rfl _ _ _ 41 rfl 3 34 keyed Tryd.underlying41 spElem b n D rfl own3 (by unfold maxLen; omega) _ _ _ rfl rfl hkey _ [] (spElem_mk (SI.siL h) (SI.siH h)) ?_; intro w2 own4 grow; clear Y0 Y1 Y2 Y3; obtain ⟨Z0, Z1, Z2, Z3⟩ := boxGrown X grow (by omega); obtain ⟨R0, R1, R2, R3⟩ := boxGrown R' grow (by omega)) | fail)
    have T2 := tchGrown T3 (Nat.le_trans hw (by simp [World.setCell])) grow
    have M2 := Memo.put own3 right h own4
    refine bodyPost_ret (v := .agg #[.int .i64 (SI.siL h), .int .i64 (SI.siH h)]) (by simp [results, Tryd.results18, go_sem, *]) rfl ⟨rfl, ?_, ?_⟩
    · have e := fun u v => Below.heap_setCell (w2.setCell ⟨w.heap.size, 0, none⟩ u) ⟨w.heap.size, 1, none⟩ v b (by simp; omega)
      have e2 := fun u => Below.heap_setCell w2 ⟨w.heap.size, 0, none⟩ u b (by simp; omega)
      exact M2.of_block ((e _ _).trans (e2 _))
    · exact T2.trans ⟨rfl, rfl, rfl, by simp [World.setCell], fun j hj _ => (Below.heap_setCell _ _ _ _ (by simp; omega)).trans (Below.heap_setCell _ _ _ _ (by simp; omega))⟩
  · go_enter Tryd.func18, Tryd.ntmps18
    go_wp2_with (first | (at_lookup; refine look_span _ rfl _ _ 41 rfl 3 34 keyed Tryd.underlying41 (zeroSp _) b n D rfl own1 _ _ rfl hkey ?_; intro x y hat; obtain ⟨rfl, rfl⟩ := rd_inj (hat.symm.trans (right h hh)); clear hat) | fail)
    refine bodyPost_ret (v := .agg #[.int .i64 (SI.siL h), .int .i64 (SI.siH h)]) (by simp [results, Tryd.results18, go_sem]) rfl ⟨rfl, ⟨D, ((own.alloc _).alloc _).mono (by omega), right⟩, ((DK.Tch.refl b w.heap.size w).alloc (Nat.le_refl _) _).alloc (by simp) _⟩
end SK
end Go.Proofs.YtfdkpcejjcifgauDoor
