/-
  An Expr with all its Kids, made to what the program reckons with, if it is ok: (impl.Expr).reckonedIn, impl.reckonedOf; impl.ExprOk.
-/
import Derived.Test.YtlkompbigpbefabExprWith
import Derived.Test.YtlkompbigpbefabDrawKit
import Derived.LoopTactic
import Derived.LoopN
namespace Go.Proofs.Ytlkompbigpbefab
open Go.RowKit Go.Sort
set_option linter.unusedVariables false
set_option maxRecDepth 8000
namespace ER
open EM SK
/-- So much room is left. -/
structure Room (w : World) (R : Nat) (n : Int) : Prop where
  c : w.cell? ⟨R, 0, none⟩ = some (.int .i64 n)
  f : w.frozen? ⟨R, 0, none⟩ = false
theorem Room.kept {w w' : World} {R : Nat} {n : Int} (h : Room w R n) (x : Below w.heap.size w w') : Room w' R n :=
  ⟨(x.cell (cell_lt h.c)).trans h.c, (x.frozen (cell_lt h.c)).trans h.f⟩
theorem Room.set {w : World} {R : Nat} {n : Int} (h : Room w R n) (m : Int) : Room (w.setCell ⟨R, 0, none⟩ (.int .i64 m)) R m :=
  ⟨by have := h.c; simp [go_sem, this], by have := h.f; simp [go_sem, this]⟩
theorem other_block {w : World} {b c o : Nat} {u : Value} (h : b ≠ c) : (w.setCell ⟨c, o, none⟩ u).heap[b]? = w.heap[b]? := Below.heap_setCell _ _ _ _ h
theorem Room.apart {w : World} {R c o : Nat} {n : Int} {u : Value} (h : Room w R n) (x : R ≠ c) : Room (w.setCell ⟨c, o, none⟩ u) R n :=
  ⟨(World.cell?_of_block (w := w) (other_block x)).trans h.c, (World.frozen?_of_block (w := w) (other_block x)).trans h.f⟩
theorem Ex.apart {w : World} {b c o : Nat} {k a d : Int} {v u : Value} (h : Ex w b k a d v) (x : b ≠ c) : Ex (w.setCell ⟨c, o, none⟩ u) b k a d v :=
  ⟨(World.cell?_of_block (w := w) (other_block x)).trans h.c0, (World.cell?_of_block (w := w) (other_block x)).trans h.c1, (World.cell?_of_block (w := w) (other_block x)).trans h.c2, (World.cell?_of_block (w := w) (other_block x)).trans h.c3⟩
theorem Ex.tch {w w' : World} {b R : Nat} {k a d : Int} {v : Value} (h : Ex w b k a d v) (x : DK.Tch R w.heap.size w w') (ne : b ≠ R) : Ex w' b k a d v :=
  ⟨(x.cell (cell_lt h.c0) ne).trans h.c0, (x.cell (cell_lt h.c0) ne).trans h.c1, (x.cell (cell_lt h.c0) ne).trans h.c2, (x.cell (cell_lt h.c0) ne).trans h.c3⟩
/-- Two values lie in block 'K'. -/
structure Two (w : World) (K : Nat) (x y : Value) : Prop where
  c0 : w.cell? ⟨K, 0, none⟩ = some x
  c1 : w.cell? ⟨K, 1, none⟩ = some y
  f0 : w.frozen? ⟨K, 0, none⟩ = false
  f1 : w.frozen? ⟨K, 1, none⟩ = false
theorem Two.new (w : World) (x y : Value) (t : TypeId) : Two (w.alloc (.cells #[x, y] t)) w.heap.size x y := ⟨by simp [go_sem], by simp [go_sem], by simp [go_sem], by simp [go_sem]⟩
theorem Two.kept {w w' : World} {K : Nat} {x y : Value} (h : Two w K x y) (g : Below w.heap.size w w') : Two w' K x y :=
  ⟨(g.cell (cell_lt h.c0)).trans h.c0, (g.cell (cell_lt h.c0)).trans h.c1, (g.frozen (cell_lt h.c0)).trans h.f0, (g.frozen (cell_lt h.c0)).trans h.f1⟩
theorem Two.tch {w w' : World} {K R : Nat} {x y : Value} (h : Two w K x y) (g : DK.Tch R w.heap.size w w') (ne : K ≠ R) : Two w' K x y :=
  ⟨(g.cell (cell_lt h.c0) ne).trans h.c0, (g.cell (cell_lt h.c0) ne).trans h.c1, (g.frozen (cell_lt h.c0) ne).trans h.f0, (g.frozen (cell_lt h.c0) ne).trans h.f1⟩
theorem Two.set0 {w : World} {K : Nat} {x y : Value} (h : Two w K x y) (u : Value) : Two (w.setCell ⟨K, 0, none⟩ u) K u y :=
  ⟨by have := h.c0; simp [go_sem, this], by have := h.c1; simp [go_sem, this], by have := h.f0; simp [go_sem, this], by have := h.f1; simp [go_sem, this]⟩
theorem Two.set1 {w : World} {K : Nat} {x y : Value} (h : Two w K x y) (u : Value) : Two (w.setCell ⟨K, 1, none⟩ u) K x u :=
  ⟨by have := h.c0; simp [go_sem, this], by have := h.c1; simp [go_sem, this], by have := h.f0; simp [go_sem, this], by have := h.f1; simp [go_sem, this]⟩
theorem Two.lt {w : World} {K : Nat} {x y : Value} (h : Two w K x y) : K < w.heap.size := cell_lt h.c0
/-- What comes of it: the room that is left, and what was made, if that is sure. -/
structure Took (w w' : World) (R : Nat) (ok : Bool) (v : Value) (m : Int) (e : Ending) : Prop where
  tc : DK.Tch R w.heap.size w w'
  rm : ∃ n, Room w' R n ∧ 0 ≤ n ∧ n ≤ 15 ∧ (ok = true → n = m)
  rt : e = .returned (.tuple #[if ok then v else .nilIface, .bool ok])
def okN (k a b : Int) (s : F) (n : Int) : Bool := formB k a b s.len && (s.okF && decide (1 + s.cnt ≤ n))
/-- In whatever memory that has these Kids below 'N'. -/
def PK (s : F) : Prop := ∀ (k a b : Int) (v : Value) (W w : World) (R : Nat) (n : Int), Kids W s v → Below W.heap.size W w → W.heap.size ≤ R → Room w R n → 0 ≤ n → n ≤ 15 →
    Calls Try.prog 30 #[exV k a b v, .pointer (some ⟨R, 0, none⟩)] w fun e w' => Took w w' R (okN k a b s n) (nodeV k a b s.evV) (n - 1 - s.cnt) e
def AllK : F → Prop
  | .nil => True
  | .cons _ _ _ t r => PK t ∧ AllK r
theorem okN_form {k a b n : Int} {s : F} (h : formB k a b s.len = false) : okN k a b s n = false := by unfold okN; rw [h, Bool.false_and]
theorem okN_none {k a b : Int} {s : F} : okN k a b s 0 = false := by
  have := s.cnt_nn
  unfold okN
  rw [decide_eq_false (by omega), Bool.and_false, Bool.and_false]
theorem below_of {W w w' : World} {R : Nat} (B : Below W.heap.size W w) (T : DK.Tch R w.heap.size w w') (h : W.heap.size ≤ R) : Below W.heap.size W w' := B.trans (T.toBelow B.size h)
/-- Nothing is left. -/
theorem take_none (k a b : Int) (p : Option Addr) (l cap : Nat) (w : World) (R : Nat) (Rm : Room w R 0) (v : Value) (m : Int) :
    Calls Try.prog 30 #[exV k a b (.slice p l cap), .pointer (some ⟨R, 0, none⟩)] w fun e w' => Took w w' R false v m e := by
  have B := below_new w (.cells #[.int .i64 k, .int .i64 a, .int .i64 b, .slice p l cap] 25)
  have R1 := Rm.kept B
  go_enter Try.func30, Try.ntmps30
  have ⟨r0, r1⟩ := R1
  go_wp2
  go_ret2
  exact ⟨DK.Tch.ofBelow B, ⟨0, R1, by omega, by omega, fun h => by cases h⟩, rfl⟩
/-- It is not in form. -/
theorem take_form (k a b : Int) (p : Option Addr) (l cap : Nat) (hf : formB k a b l = false) (w : World) (R : Nat) (n : Int) (Rm : Room w R n) (h0 : 1 ≤ n) (h1 : n ≤ 15) (v : Value) (m : Int) :
    Calls Try.prog 30 #[exV k a b (.slice p l cap), .pointer (some ⟨R, 0, none⟩)] w fun e w' => Took w w' R false v m e := by
  have B := below_new w (.cells #[.int .i64 k, .int .i64 a, .int .i64 b, .slice p l cap] 25)
  have E := Ex.new w k a b (.slice p l cap) 25
  have F1 := fun w => iForm_any k a b p l cap w
  rw [hf] at F1
  clear hf
  have R1 := Rm.kept B
  have hz : (n == 0) = false := beq_false_of_ne (by omega)
  go_enter Try.func30, Try.ntmps30
  have ⟨r0, r1⟩ := R1
  have ⟨E0, E1, E2, E3⟩ := E
  go_wp2_with fail
  clear E0 E1 E2 E3 r0 r1
  refine (F1 _).mono ?_
  rintro e w1 ⟨rfl, Bx⟩
  replace B := below1 B Bx
  replace R1 := R1.kept Bx
  clear Bx
  have ⟨r0, r1⟩ := R1
  go_wp2
  go_ret2
  exact ⟨DK.Tch.ofBelow B, ⟨n, R1, by omega, by omega, fun h => by cases h⟩, rfl⟩
set_option maxHeartbeats 4000000 in
theorem take0 (k a b : Int) (W w : World) (p : Option Addr) (hf : formB k a b 0 = true) (cap : Nat) (R : Nat) (n : Int) (B : Below W.heap.size W w) (hR : W.heap.size ≤ R) (Rm : Room w R n) (h0 : 1 ≤ n) (h1 : n ≤ 15) :
    Calls Try.prog 30 #[exV k a b (.slice p 0 cap), .pointer (some ⟨R, 0, none⟩)] w fun e w' => Took w w' R (okN k a b F.nil n) (nodeV k a b F.nil.evV) (n - 1 - F.nil.cnt) e := by
  have ho : okN k a b F.nil n = decide (1 ≤ n) := by unfold okN; show (formB k a b 0 && (true && decide (1 + 0 ≤ n))) = _; rw [hf, Bool.true_and, Bool.true_and]; rfl
  rw [ho, decide_eq_true h0]
  clear ho
  have KW := fun w => with_any k a b F.nil p 0 cap hf w
  have lt := cell_lt Rm.c
  have Bn := below_new w (.cells #[.int .i64 k, .int .i64 a, .int .i64 b, (.slice p 0 cap)] 25)
  have E := Ex.new w k a b (.slice p 0 cap) 25
  have ne : w.heap.size ≠ R := by omega
  have F1 := fun w => iForm_any k a b p 0 cap w
  rw [hf] at F1
  clear hf
  have T := DK.Tch.ofBelow (k := R) Bn
  have R1 := Rm.kept Bn
  have hz : (n == 0) = false := beq_false_of_ne (by omega)
  go_enter Try.func30, Try.ntmps30
  have ⟨r0, r1⟩ := R1
  have ⟨E0, E1, E2, E3⟩ := E
  go_wp2_with fail
  clear E0 E1 E2 E3 r0 r1
  generalize (w.alloc (.cells #[.int .i64 k, .int .i64 a, .int .i64 b, (.slice p 0 cap)] 25)) = w1 at *
  refine (F1 _).mono ?_
  rintro e w2 ⟨rfl, Bx⟩
  replace B := B.trans (Bn.mono B.size)
  clear Bn F1
  replace E := E.kept Bx
  replace R1 := R1.kept Bx
  replace T := T.trans (DK.Tch.ofBelow (Bx.mono T.size))
  clear Bx
  -- one less is left; room for the Kids
  have ltR := cell_lt R1.c
  have ltE := cell_lt E.c0
  have S := (DK.Tch.refl R w2.heap.size w2).setCell 0 (.int .i64 (n - 1))
  have X := Two.new (w2.setCell ⟨R, 0, none⟩ (.int .i64 (n - 1))) .nilIface .nilIface 90
  have Ba := below_new (w2.setCell ⟨R, 0, none⟩ (.int .i64 (n - 1))) (.cells #[.nilIface, .nilIface] 90)
  have E' := (E.apart (c := R) (o := 0) (u := .int .i64 (n - 1)) ne).kept Ba
  have R' := (R1.set (n - 1)).kept Ba
  have T' := T.trans ((S.trans (DK.Tch.ofBelow (Ba.mono S.size))).mono T.size)
  have neX : (w2.setCell ⟨R, 0, none⟩ (.int .i64 (n - 1))).heap.size ≠ R := by have := S.size; omega
  have sz : (w2.setCell ⟨R, 0, none⟩ (.int .i64 (n - 1))).heap.size = w2.heap.size := by simp [World.setCell]
  rw [sz] at X neX
  clear S Ba sz
  have ⟨r0, r1⟩ := R1
  have ⟨E0, E1, E2, E3⟩ := E
  have ⟨r2, r3⟩ := R'
  have ⟨E4, E5, E6, E7⟩ := E'
  go_wp2_with fail
  clear r0 r1 E0 E1 E2 E3 r2 r3 E4 E5 E6 E7 R1 E T
  generalize ((w2.setCell ⟨R, 0, none⟩ (.int .i64 (n - 1))).alloc (.cells #[.nilIface, .nilIface] 90)) = w3 at *
  generalize w2.heap.size = xb at *
  refine wp_loop_rounds 1 ?_
  rw [rounds_succ]
  have ⟨E0, E1, E2, E3⟩ := E'
  have ⟨x0, x1, x2, x3⟩ := X
  go_wp2_with fail
  clear E0 E1 E2 E3 x0 x1 x2 x3
  refine (KW _).mono ?_
  rintro e wz ⟨rfl, Bx⟩
  replace R' := R'.kept Bx
  replace T' := T'.trans (DK.Tch.ofBelow (Bx.mono T'.size))
  go_wp2
  go_ret2
  exact ⟨T', ⟨n - 1, R', by omega, by omega, fun _ => by show _ = n - 1 - 0; omega⟩, rfl⟩
theorem Took.two {w w' : World} {R : Nat} {ok : Bool} {k a b m : Int} {l : List Value} {e : Ending} (h : Took w w' R ok (nodeV k a b l) m e) :
    ∃ n, DK.Tch R w.heap.size w w' ∧ Room w' R n ∧ 0 ≤ n ∧ n ≤ 15 ∧ ((ok = true ∧ n = m ∧ e = .returned (.tuple #[.iface (kT k) (inV k a b l), .bool true])) ∨ (ok = false ∧ e = .returned (.tuple #[.nilIface, .bool false]))) := by
  obtain ⟨T, ⟨n, h1, h2, h3, h4⟩, h5⟩ := h
  refine ⟨n, T, h1, h2, h3, ?_⟩
  cases ok
  · exact .inr ⟨rfl, h5⟩
  · exact .inl ⟨rfl, h4 rfl, h5⟩
theorem Tch_new {w w' : World} {b : Nat} (R o : Nat) (u : Value) (h : w.heap.size ≤ b) : DK.Tch R w.heap.size w' (w'.setCell ⟨b, o, none⟩ u) :=
  ⟨rfl, rfl, rfl, by simp [World.setCell], fun j hj _ => Below.heap_setCell _ _ _ _ (by show j ≠ b; omega)⟩
theorem one_eq {k a b k1 a1 b1 n : Int} {t1 : F} : okN k a b (F.cons k1 a1 b1 t1 F.nil) n = (formB k a b 1 && okN k1 a1 b1 t1 (n - 1)) := by
  have hc : (F.cons k1 a1 b1 t1 F.nil).cnt = 1 + t1.cnt + 0 := rfl
  have hl : (F.cons k1 a1 b1 t1 F.nil).len = 1 := rfl
  have ho : (F.cons k1 a1 b1 t1 F.nil).okF = (formB k1 a1 b1 t1.len && (t1.okF && true)) := rfl
  unfold okN
  rw [hl, ho]
  apply Bool.eq_iff_iff.2
  simp only [Bool.and_eq_true, decide_eq_true_eq, Bool.and_true, hc]
  exact ⟨fun ⟨h1, ⟨h2, h3⟩, h4⟩ => ⟨h1, h2, h3, by omega⟩, fun ⟨h1, h2, h3, h4⟩ => ⟨h1, ⟨h2, h3⟩, by omega⟩⟩
theorem no11 {k a b k1 a1 b1 n : Int} {t1 : F} (h : okN k1 a1 b1 t1 (n - 1) = false) : okN k a b (F.cons k1 a1 b1 t1 F.nil) n = false := by rw [one_eq, h, Bool.and_false]
theorem yes1 {k a b k1 a1 b1 n : Int} {t1 : F} (hf : formB k a b 1 = true) (h : okN k1 a1 b1 t1 (n - 1) = true) : okN k a b (F.cons k1 a1 b1 t1 F.nil) n = true := by rw [one_eq, hf, h]; rfl
theorem two_eq {k a b k1 a1 b1 k2 a2 b2 n : Int} {t1 t2 : F} : okN k a b (F.cons k1 a1 b1 t1 (F.cons k2 a2 b2 t2 F.nil)) n = (formB k a b 2 && (okN k1 a1 b1 t1 (n - 1) && okN k2 a2 b2 t2 (n - 1 - 1 - t1.cnt))) := by
  have n1 := t1.cnt_nn
  have n2 := t2.cnt_nn
  have hc : (F.cons k1 a1 b1 t1 (F.cons k2 a2 b2 t2 F.nil)).cnt = 1 + t1.cnt + (1 + t2.cnt + 0) := rfl
  have hl : (F.cons k1 a1 b1 t1 (F.cons k2 a2 b2 t2 F.nil)).len = 2 := rfl
  have ho : (F.cons k1 a1 b1 t1 (F.cons k2 a2 b2 t2 F.nil)).okF = (formB k1 a1 b1 t1.len && (t1.okF && (formB k2 a2 b2 t2.len && (t2.okF && true)))) := rfl
  unfold okN
  rw [hl, ho]
  apply Bool.eq_iff_iff.2
  simp only [Bool.and_eq_true, decide_eq_true_eq, Bool.and_true, hc]
  exact ⟨fun ⟨h1, ⟨h2, h3, h5, h6⟩, h4⟩ => ⟨h1, ⟨h2, h3, by omega⟩, h5, h6, by omega⟩, fun ⟨h1, ⟨h2, h3, h4⟩, h5, h6, h7⟩ => ⟨h1, ⟨h2, h3, h5, h6⟩, by omega⟩⟩
theorem no21 {k a b k1 a1 b1 k2 a2 b2 n : Int} {t1 t2 : F} (h : okN k1 a1 b1 t1 (n - 1) = false) : okN k a b (F.cons k1 a1 b1 t1 (F.cons k2 a2 b2 t2 F.nil)) n = false := by
  rw [two_eq, h, Bool.false_and, Bool.and_false]
theorem no22 {k a b k1 a1 b1 k2 a2 b2 n : Int} {t1 t2 : F} (h1 : okN k1 a1 b1 t1 (n - 1) = true) (h : okN k2 a2 b2 t2 (n - 1 - 1 - t1.cnt) = false) : okN k a b (F.cons k1 a1 b1 t1 (F.cons k2 a2 b2 t2 F.nil)) n = false := by
  rw [two_eq, h, Bool.and_false, Bool.and_false]
theorem yes2 {k a b k1 a1 b1 k2 a2 b2 n : Int} {t1 t2 : F} (hf : formB k a b 2 = true) (h1 : okN k1 a1 b1 t1 (n - 1) = true) (h : okN k2 a2 b2 t2 (n - 1 - 1 - t1.cnt) = true) : okN k a b (F.cons k1 a1 b1 t1 (F.cons k2 a2 b2 t2 F.nil)) n = true := by
  rw [two_eq, h1, h, hf]; rfl
set_option maxHeartbeats 4000000 in
theorem take1 (k a b : Int) (W w : World) (x o : Nat) (k1 a1 b1 : Int) (t1 : F) (p1 : Option Addr) (c1 : Nat) (q10 : W.cell? ⟨x, o, none⟩ = some (.int .i64 k1)) (q11 : W.cell? ⟨x, o + 1, none⟩ = some (.int .i64 a1)) (q12 : W.cell? ⟨x, o + 2, none⟩ = some (.int .i64 b1)) (q13 : W.cell? ⟨x, o + 3, none⟩ = some (.slice p1 t1.len c1)) (K1 : Kids W t1 (.slice p1 t1.len c1)) (pk1 : PK t1) (hf : formB k a b 1 = true) (cap : Nat) (R : Nat) (n : Int) (B : Below W.heap.size W w) (hR : W.heap.size ≤ R) (Rm : Room w R n) (h0 : 1 ≤ n) (h1 : n ≤ 15) :
    Calls Try.prog 30 #[exV k a b (.slice (some ⟨x, o, none⟩) 1 cap), .pointer (some ⟨R, 0, none⟩)] w fun e w' => Took w w' R (okN k a b (F.cons k1 a1 b1 t1 F.nil) n) (nodeV k a b (F.cons k1 a1 b1 t1 F.nil).evV) (n - 1 - (F.cons k1 a1 b1 t1 F.nil).cnt) e := by
  have KW := fun w => with_any k a b (F.cons k1 a1 b1 t1 F.nil) (some ⟨x, o, none⟩) 1 cap hf w
  replace KW := Hide.mk KW
  obtain ⟨N, hN⟩ : ∃ N, N = n := ⟨_, rfl⟩
  have lx1 := cell_lt q10
  have tn1 := t1.cnt_nn
  have lt := cell_lt Rm.c
  have Bn := below_new w (.cells #[.int .i64 k, .int .i64 a, .int .i64 b, (.slice (some ⟨x, o, none⟩) 1 cap)] 25)
  have E := Ex.new w k a b (.slice (some ⟨x, o, none⟩) 1 cap) 25
  have ne : w.heap.size ≠ R := by omega
  have F1 := fun w => iForm_any k a b (some ⟨x, o, none⟩) 1 cap w
  rw [hf] at F1
  have T := DK.Tch.ofBelow (k := R) Bn
  have R1 := Rm.kept Bn
  have hz : (n == 0) = false := beq_false_of_ne (by omega)
  go_enter Try.func30, Try.ntmps30
  have ⟨r0, r1⟩ := R1
  have ⟨E0, E1, E2, E3⟩ := E
  go_wp2_with fail
  clear E0 E1 E2 E3 r0 r1
  generalize (w.alloc (.cells #[.int .i64 k, .int .i64 a, .int .i64 b, (.slice (some ⟨x, o, none⟩) 1 cap)] 25)) = w1 at *
  refine (F1 _).mono ?_
  rintro e w2 ⟨rfl, Bx⟩
  clear Bn F1
  replace E := E.kept Bx
  replace R1 := R1.kept Bx
  replace T := T.trans (DK.Tch.ofBelow (Bx.mono T.size))
  clear Bx
  -- one less is left; room for the Kids
  have ltR := cell_lt R1.c
  have ltE := cell_lt E.c0
  have S := (DK.Tch.refl R w2.heap.size w2).setCell 0 (.int .i64 (n - 1))
  have X := Two.new (w2.setCell ⟨R, 0, none⟩ (.int .i64 (n - 1))) .nilIface .nilIface 90
  have Ba := below_new (w2.setCell ⟨R, 0, none⟩ (.int .i64 (n - 1))) (.cells #[.nilIface, .nilIface] 90)
  have E' := (E.apart (c := R) (o := 0) (u := .int .i64 (n - 1)) ne).kept Ba
  have R' := (R1.set (n - 1)).kept Ba
  have T' := T.trans ((S.trans (DK.Tch.ofBelow (Ba.mono S.size))).mono T.size)
  have neX : (w2.setCell ⟨R, 0, none⟩ (.int .i64 (n - 1))).heap.size ≠ R := by have := S.size; omega
  have sz : (w2.setCell ⟨R, 0, none⟩ (.int .i64 (n - 1))).heap.size = w2.heap.size := by simp [World.setCell]
  rw [sz] at X neX
  have hxb := T.size
  have neE : w.heap.size ≠ w2.heap.size := by omega
  clear S Ba sz
  have ⟨r0, r1⟩ := R1
  have ⟨E0, E1, E2, E3⟩ := E
  have ⟨r2, r3⟩ := R'
  have ⟨E4, E5, E6, E7⟩ := E'
  go_wp2_with fail
  clear r0 r1 E0 E1 E2 E3 r2 r3 E4 E5 E6 E7 R1 E T
  generalize ((w2.setCell ⟨R, 0, none⟩ (.int .i64 (n - 1))).alloc (.cells #[.nilIface, .nilIface] 90)) = w3 at *
  generalize w2.heap.size = xb at *
  refine wp_loop_rounds 2 ?_
  rw [rounds_succ]
  have B' := below_of B T' hR
  have Bn := below_new w3 (.cells #[.int .i64 k1, .int .i64 a1, .int .i64 b1, .slice p1 t1.len c1] 25)
  have ok1 := pk1 k1 a1 b1 _ W _ R (n - 1) K1 (B'.trans (Bn.mono B'.size)) hR (R'.kept Bn) (by omega) (by omega)
  have y0 := (B'.cell lx1).trans q10
  have y1 := (B'.cell lx1).trans q11
  have y2 := (B'.cell lx1).trans q12
  have y3 := (B'.cell lx1).trans q13
  replace ok1 := Hide.mk ok1
  have ⟨E0, E1, E2, E3⟩ := E'
  go_wp2_with fail
  clear E0 E1 E2 E3 y0 y1 y2 y3 q10 q11 q12 q13 B'
  refine (ok1.out).mono ?_
  clear ok1
  intro e wk tk
  obtain ⟨m1, Tk, Rk, l1, u1, ⟨o1, rfl, rfl⟩ | ⟨o1, rfl⟩⟩ := tk.two
  rotate_left
  · replace o1 := Hide.mk o1
    replace T' := T'.trans (((DK.Tch.ofBelow Bn).trans (Tk.mono Bn.size)).mono T'.size)
    clear Bn Tk tk E' X KW R'
    go_wp2
    go_ret2
    have hno : okN k a b (F.cons k1 a1 b1 t1 F.nil) n = false := no11 o1.out
    rw [hno]
    exact ⟨T', ⟨m1, Rk, l1, u1, fun h => by cases h⟩, rfl⟩
  replace o1 := Hide.mk o1
  replace T' := T'.trans (((DK.Tch.ofBelow Bn).trans (Tk.mono Bn.size)).mono T'.size)
  replace E' := (E'.kept Bn).tch Tk ne
  replace X := (X.kept Bn).tch Tk neX
  replace R' := Rk
  clear Bn Tk Rk tk
  have ⟨x0, x1, x2, x3⟩ := X
  go_wp2_with fail
  clear x0 x1 x2 x3
  replace X := X.set0 (.iface (kT k1) (inV k1 a1 b1 t1.evV))
  replace E' := E'.apart (c := xb) (o := 0) (u := .iface (kT k1) (inV k1 a1 b1 t1.evV)) neE
  replace R' := R'.apart (c := xb) (o := 0) (u := .iface (kT k1) (inV k1 a1 b1 t1.evV)) (Ne.symm neX)
  replace T' := T'.trans (Tch_new R 0 (.iface (kT k1) (inV k1 a1 b1 t1.evV)) hxb)
  generalize (wk.setCell ⟨xb, 0, none⟩ (.iface (kT k1) (inV k1 a1 b1 t1.evV))) = w4 at *
  clear wk
  rw [rounds_succ]
  have ⟨E0, E1, E2, E3⟩ := E'
  have ⟨x0, x1, x2, x3⟩ := X
  go_wp2_with fail
  clear E0 E1 E2 E3 x0 x1 x2 x3
  refine (KW.out _).mono ?_
  clear KW
  rintro e wz ⟨rfl, Bx⟩
  replace R' := R'.kept Bx
  replace T' := T'.trans (DK.Tch.ofBelow (Bx.mono T'.size))
  go_wp2
  go_ret2
  have hyes := yes1 hf o1.out
  rw [hyes]
  exact ⟨T', ⟨_, R', by omega, by omega, fun _ => by simp only [F.cnt]; omega⟩, rfl⟩
set_option maxHeartbeats 4000000 in
theorem take2 (k a b : Int) (W w : World) (x o : Nat) (k1 a1 b1 : Int) (t1 : F) (p1 : Option Addr) (c1 : Nat) (k2 a2 b2 : Int) (t2 : F) (p2 : Option Addr) (c2 : Nat) (q10 : W.cell? ⟨x, o, none⟩ = some (.int .i64 k1)) (q11 : W.cell? ⟨x, o + 1, none⟩ = some (.int .i64 a1)) (q12 : W.cell? ⟨x, o + 2, none⟩ = some (.int .i64 b1)) (q13 : W.cell? ⟨x, o + 3, none⟩ = some (.slice p1 t1.len c1)) (K1 : Kids W t1 (.slice p1 t1.len c1)) (pk1 : PK t1) (q20 : W.cell? ⟨x, o + 4, none⟩ = some (.int .i64 k2)) (q21 : W.cell? ⟨x, o + 4 + 1, none⟩ = some (.int .i64 a2)) (q22 : W.cell? ⟨x, o + 4 + 2, none⟩ = some (.int .i64 b2)) (q23 : W.cell? ⟨x, o + 4 + 3, none⟩ = some (.slice p2 t2.len c2)) (K2 : Kids W t2 (.slice p2 t2.len c2)) (pk2 : PK t2) (hf : formB k a b 2 = true) (cap : Nat) (R : Nat) (n : Int) (B : Below W.heap.size W w) (hR : W.heap.size ≤ R) (Rm : Room w R n) (h0 : 1 ≤ n) (h1 : n ≤ 15) :
    Calls Try.prog 30 #[exV k a b (.slice (some ⟨x, o, none⟩) 2 cap), .pointer (some ⟨R, 0, none⟩)] w fun e w' => Took w w' R (okN k a b (F.cons k1 a1 b1 t1 (F.cons k2 a2 b2 t2 F.nil)) n) (nodeV k a b (F.cons k1 a1 b1 t1 (F.cons k2 a2 b2 t2 F.nil)).evV) (n - 1 - (F.cons k1 a1 b1 t1 (F.cons k2 a2 b2 t2 F.nil)).cnt) e := by
  have KW := fun w => with_any k a b (F.cons k1 a1 b1 t1 (F.cons k2 a2 b2 t2 F.nil)) (some ⟨x, o, none⟩) 2 cap hf w
  replace KW := Hide.mk KW
  obtain ⟨N, hN⟩ : ∃ N, N = n := ⟨_, rfl⟩
  have lx1 := cell_lt q10
  have tn1 := t1.cnt_nn
  have lx2 := cell_lt q20
  have tn2 := t2.cnt_nn
  have lt := cell_lt Rm.c
  have Bn := below_new w (.cells #[.int .i64 k, .int .i64 a, .int .i64 b, (.slice (some ⟨x, o, none⟩) 2 cap)] 25)
  have E := Ex.new w k a b (.slice (some ⟨x, o, none⟩) 2 cap) 25
  have ne : w.heap.size ≠ R := by omega
  have F1 := fun w => iForm_any k a b (some ⟨x, o, none⟩) 2 cap w
  rw [hf] at F1
  have T := DK.Tch.ofBelow (k := R) Bn
  have R1 := Rm.kept Bn
  have hz : (n == 0) = false := beq_false_of_ne (by omega)
  go_enter Try.func30, Try.ntmps30
  have ⟨r0, r1⟩ := R1
  have ⟨E0, E1, E2, E3⟩ := E
  go_wp2_with fail
  clear E0 E1 E2 E3 r0 r1
  generalize (w.alloc (.cells #[.int .i64 k, .int .i64 a, .int .i64 b, (.slice (some ⟨x, o, none⟩) 2 cap)] 25)) = w1 at *
  refine (F1 _).mono ?_
  rintro e w2 ⟨rfl, Bx⟩
  clear Bn F1
  replace E := E.kept Bx
  replace R1 := R1.kept Bx
  replace T := T.trans (DK.Tch.ofBelow (Bx.mono T.size))
  clear Bx
  -- one less is left; room for the Kids
  have ltR := cell_lt R1.c
  have ltE := cell_lt E.c0
  have S := (DK.Tch.refl R w2.heap.size w2).setCell 0 (.int .i64 (n - 1))
  have X := Two.new (w2.setCell ⟨R, 0, none⟩ (.int .i64 (n - 1))) .nilIface .nilIface 90
  have Ba := below_new (w2.setCell ⟨R, 0, none⟩ (.int .i64 (n - 1))) (.cells #[.nilIface, .nilIface] 90)
  have E' := (E.apart (c := R) (o := 0) (u := .int .i64 (n - 1)) ne).kept Ba
  have R' := (R1.set (n - 1)).kept Ba
  have T' := T.trans ((S.trans (DK.Tch.ofBelow (Ba.mono S.size))).mono T.size)
  have neX : (w2.setCell ⟨R, 0, none⟩ (.int .i64 (n - 1))).heap.size ≠ R := by have := S.size; omega
  have sz : (w2.setCell ⟨R, 0, none⟩ (.int .i64 (n - 1))).heap.size = w2.heap.size := by simp [World.setCell]
  rw [sz] at X neX
  have hxb := T.size
  have neE : w.heap.size ≠ w2.heap.size := by omega
  clear S Ba sz
  have ⟨r0, r1⟩ := R1
  have ⟨E0, E1, E2, E3⟩ := E
  have ⟨r2, r3⟩ := R'
  have ⟨E4, E5, E6, E7⟩ := E'
  go_wp2_with fail
  clear r0 r1 E0 E1 E2 E3 r2 r3 E4 E5 E6 E7 R1 E T
  generalize ((w2.setCell ⟨R, 0, none⟩ (.int .i64 (n - 1))).alloc (.cells #[.nilIface, .nilIface] 90)) = w3 at *
  generalize w2.heap.size = xb at *
  refine wp_loop_rounds 3 ?_
  rw [rounds_succ]
  have B' := below_of B T' hR
  have Bn := below_new w3 (.cells #[.int .i64 k1, .int .i64 a1, .int .i64 b1, .slice p1 t1.len c1] 25)
  have ok1 := pk1 k1 a1 b1 _ W _ R (n - 1) K1 (B'.trans (Bn.mono B'.size)) hR (R'.kept Bn) (by omega) (by omega)
  have y0 := (B'.cell lx1).trans q10
  have y1 := (B'.cell lx1).trans q11
  have y2 := (B'.cell lx1).trans q12
  have y3 := (B'.cell lx1).trans q13
  replace ok1 := Hide.mk ok1
  have ⟨E0, E1, E2, E3⟩ := E'
  go_wp2_with fail
  clear E0 E1 E2 E3 y0 y1 y2 y3 q10 q11 q12 q13 B'
  refine (ok1.out).mono ?_
  clear ok1
  intro e wk tk
  obtain ⟨m1, Tk, Rk, l1, u1, ⟨o1, rfl, rfl⟩ | ⟨o1, rfl⟩⟩ := tk.two
  rotate_left
  · replace o1 := Hide.mk o1
    replace T' := T'.trans (((DK.Tch.ofBelow Bn).trans (Tk.mono Bn.size)).mono T'.size)
    clear Bn Tk tk E' X KW R'
    go_wp2
    go_ret2
    have hno : okN k a b (F.cons k1 a1 b1 t1 (F.cons k2 a2 b2 t2 F.nil)) n = false := no21 o1.out
    rw [hno]
    exact ⟨T', ⟨m1, Rk, l1, u1, fun h => by cases h⟩, rfl⟩
  replace o1 := Hide.mk o1
  replace T' := T'.trans (((DK.Tch.ofBelow Bn).trans (Tk.mono Bn.size)).mono T'.size)
  replace E' := (E'.kept Bn).tch Tk ne
  replace X := (X.kept Bn).tch Tk neX
  replace R' := Rk
  clear Bn Tk Rk tk
  have ⟨x0, x1, x2, x3⟩ := X
  go_wp2_with fail
  clear x0 x1 x2 x3
  replace X := X.set0 (.iface (kT k1) (inV k1 a1 b1 t1.evV))
  replace E' := E'.apart (c := xb) (o := 0) (u := .iface (kT k1) (inV k1 a1 b1 t1.evV)) neE
  replace R' := R'.apart (c := xb) (o := 0) (u := .iface (kT k1) (inV k1 a1 b1 t1.evV)) (Ne.symm neX)
  replace T' := T'.trans (Tch_new R 0 (.iface (kT k1) (inV k1 a1 b1 t1.evV)) hxb)
  generalize (wk.setCell ⟨xb, 0, none⟩ (.iface (kT k1) (inV k1 a1 b1 t1.evV))) = w4 at *
  clear wk
  rw [rounds_succ]
  have B' := below_of B T' hR
  have Bn := below_new w4 (.cells #[.int .i64 k2, .int .i64 a2, .int .i64 b2, .slice p2 t2.len c2] 25)
  have ok2 := pk2 k2 a2 b2 _ W _ R ((n - 1) - 1 - t1.cnt) K2 (B'.trans (Bn.mono B'.size)) hR (R'.kept Bn) (by omega) (by omega)
  have y0 := (B'.cell lx2).trans q20
  have y1 := (B'.cell lx2).trans q21
  have y2 := (B'.cell lx2).trans q22
  have y3 := (B'.cell lx2).trans q23
  replace ok2 := Hide.mk ok2
  have ⟨E0, E1, E2, E3⟩ := E'
  go_wp2_with fail
  clear E0 E1 E2 E3 y0 y1 y2 y3 q20 q21 q22 q23 B'
  refine (ok2.out).mono ?_
  clear ok2
  intro e wk tk
  obtain ⟨m2, Tk, Rk, l2, u2, ⟨o2, rfl, rfl⟩ | ⟨o2, rfl⟩⟩ := tk.two
  rotate_left
  · replace o2 := Hide.mk o2
    replace T' := T'.trans (((DK.Tch.ofBelow Bn).trans (Tk.mono Bn.size)).mono T'.size)
    clear Bn Tk tk E' X KW R'
    go_wp2
    go_ret2
    have hno : okN k a b (F.cons k1 a1 b1 t1 (F.cons k2 a2 b2 t2 F.nil)) n = false := no22 o1.out o2.out
    rw [hno]
    exact ⟨T', ⟨m2, Rk, l2, u2, fun h => by cases h⟩, rfl⟩
  replace o2 := Hide.mk o2
  replace T' := T'.trans (((DK.Tch.ofBelow Bn).trans (Tk.mono Bn.size)).mono T'.size)
  replace E' := (E'.kept Bn).tch Tk ne
  replace X := (X.kept Bn).tch Tk neX
  replace R' := Rk
  clear Bn Tk Rk tk
  have ⟨x0, x1, x2, x3⟩ := X
  go_wp2_with fail
  clear x0 x1 x2 x3
  replace X := X.set1 (.iface (kT k2) (inV k2 a2 b2 t2.evV))
  replace E' := E'.apart (c := xb) (o := 1) (u := .iface (kT k2) (inV k2 a2 b2 t2.evV)) neE
  replace R' := R'.apart (c := xb) (o := 1) (u := .iface (kT k2) (inV k2 a2 b2 t2.evV)) (Ne.symm neX)
  replace T' := T'.trans (Tch_new R 1 (.iface (kT k2) (inV k2 a2 b2 t2.evV)) hxb)
  generalize (wk.setCell ⟨xb, 1, none⟩ (.iface (kT k2) (inV k2 a2 b2 t2.evV))) = w5 at *
  clear wk
  rw [rounds_succ]
  have ⟨E0, E1, E2, E3⟩ := E'
  have ⟨x0, x1, x2, x3⟩ := X
  go_wp2_with fail
  clear E0 E1 E2 E3 x0 x1 x2 x3
  refine (KW.out _).mono ?_
  clear KW
  rintro e wz ⟨rfl, Bx⟩
  replace R' := R'.kept Bx
  replace T' := T'.trans (DK.Tch.ofBelow (Bx.mono T'.size))
  go_wp2
  go_ret2
  have hyes := yes2 hf o1.out o2.out
  rw [hyes]
  exact ⟨T', ⟨_, R', by omega, by omega, fun _ => by simp only [F.cnt]; omega⟩, rfl⟩
end ER
end Go.Proofs.Ytlkompbigpbefab
