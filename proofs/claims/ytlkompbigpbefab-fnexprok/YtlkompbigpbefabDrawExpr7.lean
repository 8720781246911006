/-
  The draw of a tree, some spoilt: what the specification's l71Bent returns.
-/
import Derived.Test.YtlkompbigpbefabDrawExpr6
import Derived.LoopTactic
import Derived.LoopN
import Derived.WalkKit
namespace Go.Proofs.Ytlkompbigpbefab
open Go.RowKit Go.Sort Go.Joins
set_option linter.unusedVariables false
set_option maxRecDepth 8000
namespace DX
open DK DW SK EM ER
theorem bn4 : bn 4 = 15170860 := rfl
/-- What is answered: a tree, in blocks behind the answer's own. -/
def Bent (w w' : World) (k p B : Nat) (e : Ending) : Prop := ∃ (kk a c : Int) (t : F) (u : Value) (q : Nat), e = .returned (exV kk a c u) ∧ KidsS (fun b => w.heap.size < b) w' t u ∧ t.len ≤ 3 ∧ Rd w' k q ∧ q ≤ p + B ∧ Tch k w.heap.size w w'
theorem bent_done {w w1 : World} {k p M B : Nat} {kk a c : Int} {u : Value} {t : F} (R : ∃ q, Rd w1 k q ∧ q ≤ M) (Tc : Tch k w.heap.size w w1) (hk : k < w.heap.size) (hq : M ≤ p + B) (hl : t.len ≤ 3) (ho : KidsS (fun b => w.heap.size < b) w1 t u) :
    Bent w (set4 w1 w.heap.size 0 (.int .i64 kk) (.int .i64 a) (.int .i64 c) u) k p B (.returned (exV kk a c u)) := by
  obtain ⟨q, R, h⟩ := R
  exact ⟨kk, a, c, t, u, q, rfl, ho.turn (fun b hb _ => set4_other w1 _ _ _ _ (by have : w.heap.size < b := hb; omega)) (fun _ h _ => h), hl, rd_moved R (set4_other w1 _ _ _ _ (by omega)) (fun j hj => set4_other w1 _ _ _ _ (by omega)), by omega, Tc.trans (Tch.ofBelow (set4_below (Below.refl _ _) (Nat.le_refl _) _ _ _ _))⟩
theorem three (w : World) (t : TypeId) (z : Int) (z0 : 0 ≤ z) (z1 : z < 3) : ∃ x : Int, (w.alloc (.cells #[.int .i64 1001, .int .i64 (-1001), .int .i64 1] t)).cell? ⟨w.heap.size, z.toNat, none⟩ = some (.int .i64 x) := by
  rcases (show z = 0 ∨ z = 1 ∨ z = 2 by omega) with rfl | rfl | rfl
  · exact ⟨1001, by simp [go_sem]⟩
  · exact ⟨-1001, by simp [go_sem]⟩
  · exact ⟨1, by simp [go_sem]⟩
theorem set4_alloc (w : World) {b : Nat} (hb : b < w.heap.size) (o : Obj) (x y z v : Value) : (set4 w b 0 x y z v).alloc o = set4 (w.alloc o) b 0 x y z v := by
  have s : ∀ (w : World) (a : Addr) (v : Value), (w.setCell a v).heap.size = w.heap.size := fun w a v => World.setCell_size' w a v
  unfold set4
  rw [World.setCell_alloc_past _ _ _ _ hb, World.setCell_alloc_past _ _ _ _ (by rw [s]; exact hb), World.setCell_alloc_past _ _ _ _ (by rw [s, s]; exact hb), World.setCell_alloc_past _ _ _ _ (by rw [s, s, s]; exact hb)]
/-- Twice the same, beside itself. -/
theorem twice_kids {S : Nat → Prop} {w : World} {kk a c : Int} {t : F} {pu : Option Addr} {nu cu : Nat} (h : KidsS S w t (.slice pu nu cu)) (ty : TypeId) (hS : S w.heap.size) :
    KidsS S (w.alloc (.cells #[.int .i64 kk, .int .i64 a, .int .i64 c, .slice pu nu cu, .int .i64 kk, .int .i64 a, .int .i64 c, .slice pu nu cu] ty)) (.cons kk a c t (.cons kk a c t .nil)) (.slice (some ⟨w.heap.size, 0, none⟩) 2 2) := by
  have h' := h.turn (S' := S) (w' := w.alloc (.cells #[.int .i64 kk, .int .i64 a, .int .i64 c, .slice pu nu cu, .int .i64 kk, .int .i64 a, .int .i64 c, .slice pu nu cu] ty)) (fun b _ hl => (below_new w _).block b hl) (fun _ h _ => h)
  obtain ⟨p, n, cap, e, h5, h6⟩ := h'
  cases e
  exact ⟨_, _, _, rfl, rfl, .inr ⟨_, 0, rfl, hS, ⟨by simp [go_sem], by simp [go_sem], by simp [go_sem]⟩, ⟨pu, nu, cu, by simp [go_sem], h5, h6⟩, ⟨by simp [go_sem], by simp [go_sem], by simp [go_sem]⟩, ⟨pu, nu, cu, by simp [go_sem], h5, h6⟩, trivial⟩⟩
theorem St.more {k zb eb M M' : Nat} {we w : World} {kk a c : Int} {t : F} {u : Value} (h : St k zb eb M we kk a c t u w) (hM : M ≤ M') : St k zb eb M' we kk a c t u w := ⟨h.ob, h.oz, h.ow, h.tl, let ⟨q, R, g⟩ := h.rd; ⟨q, R, Nat.le_trans g hM⟩, h.tc, h.lt⟩
set_option maxHeartbeats 16000000 in
theorem l71Bent_any (ex : Bool) (w : World) (k p : Nat) (hp : p ≤ 1000) (h : Rd w k p) :
    Calls Try.prog 17 #[.pointer (some ⟨k, 0, none⟩), .bool ex] w fun e w' => Bent w w' k p 80000000 e := by
  have hk := h.lt
  have b4 := bn4
  have X := Ob.new w 0 0 0 (.slice none 0 0) 25
  have R := h.alloc (.cells #[.int .i64 0, .int .i64 0, .int .i64 0, .slice none 0 0] 25)
  have T := (Tch.refl k w.heap.size w).alloc (Nat.le_refl _) (.cells #[.int .i64 0, .int .i64 0, .int .i64 0, .slice none 0 0] 25)
  have sz1 := size_new w (.cells #[.int .i64 0, .int .i64 0, .int .i64 0, .slice none 0 0] 25)
  go_enter Try.func17, Try.ntmps17
  go_wp2_with fail
  generalize (w.alloc (.cells #[.int .i64 0, .int .i64 0, .int .i64 0, .slice none 0 0] 25)) = w1 at *
  refine (pick_any _ k _ _ (by omega) R).mono ?_
  rintro e w2 ⟨r, rfl, r0, r1, R', T'⟩
  replace X := ob_tch X T' (by omega)
  replace R := R'
  have sz2 := T'.size
  replace T := T.trans (T'.mono T.size)
  replace r1 := r1 (by omega)
  clear R' T'
  go_wp2_with fail
  refine (l71Expr_any ex 4 (1 + r) w2 k (p + 1) (by omega) (by omega) (by omega) (by omega) R).mono ?_
  rintro e w3 ⟨kk, a, c, t, u, q, rfl, OW, tl, R', hq, T'⟩
  replace X := ob_tch X T' (by omega)
  have sz3 := T'.size
  have OZ := OwnZ.of_old (eb := w3.heap.size) (OW.weak (show w.heap.size + 1 ≤ w2.heap.size by omega)) (Nat.le_refl _)
  obtain ⟨pu, _, cu, rfl, rfl, _⟩ := OW.kids
  replace T := T.trans (T'.mono T.size)
  have Bn := below_new w3 (.cells #[.int .i64 kk, .int .i64 a, .int .i64 c, .slice pu t.len cu] 25)
  have S : St k w.heap.size w3.heap.size (p + 1 + 15170860) w kk a c t (.slice pu t.len cu) (w3.alloc (.cells #[.int .i64 kk, .int .i64 a, .int .i64 c, .slice pu t.len cu] 25)) := ⟨Ob.new w3 kk a c _ 25, X.kept Bn, OZ.keep fun b _ _ hl => Bn.block b hl, tl, ⟨q, R'.kept Bn, by omega⟩, T.trans (Tch.ofBelow (Bn.mono T.size)), ⟨by omega, hk⟩⟩
  clear R' T' R T X OW OZ Bn sz1 sz2
  go_wp2_with fail
  obtain ⟨eb, heb⟩ : ∃ eb, eb = w3.heap.size := ⟨_, rfl⟩
  rw [← heb] at S sz3 ⊢
  generalize (w3.alloc (.cells #[.int .i64 kk, .int .i64 a, .int .i64 c, .slice pu t.len cu] 25)) = w4 at *
  clear heb tl hq sz3
  go_loopw [6] (fun s6 wr => ∃ (j : Nat) (kk a c : Int) (t : F) (pu : Option Addr) (nu cu : Nat), s6 = .int .i64 j ∧ j ≤ 4 ∧ St k w.heap.size eb (p + 1 + (j + 1) * 15170870) w kk a c t (.slice pu nu cu) wr) (fun s6 _ => match s6 with | .int _ i => (4 - i.toNat) | _ => 0)
  case atStart => exact ⟨0, kk, a, c, t, pu, t.len, cu, rfl, by omega, S.more (M' := p + 1 + (0 + 1) * 15170870) (by omega)⟩
  case round =>
    clear S
    obtain ⟨j, kk, a, c, t, pu, nu, cu, rfl, hj, S⟩ := hrel
    by_cases hj4 : j = 4
    · subst hj4
      have d4 : decide ((4 : Int) < 4) = false := by decide
      go_wp2_with fail
      obtain ⟨q, R, hq⟩ := S.rd
      refine (pick_any _ k _ _ (by omega) R).mono ?_
      rintro e wz ⟨z, rfl, z0, z1, R', T'⟩
      replace S := S.read (M' := p + 1 + (4 + 1) * 15170870 + 1) T' ⟨_, R', by omega⟩
      replace z1 := z1 (by omega)
      clear R R' hq q
      clear T'
      by_cases g0 : z = 0
      · subst g0
        go_wp2_with fail
        obtain ⟨q, R, hq⟩ := S.rd
        refine (pick_any _ k _ _ (by omega) R).mono ?_
        rintro e wy ⟨y, rfl, y0, y1, R', T'⟩
        replace S := S.read (M' := p + 1 + (4 + 1) * 15170870 + 2) T' ⟨_, R', by omega⟩
        replace y1 := y1 (by omega)
        clear R R' hq q
        clear T'
        have nz1 : w.heap.size ≠ eb := Nat.ne_of_lt S.lt.1
        have nz2 : eb ≠ w.heap.size := Ne.symm nz1
        have ⟨⟨x0, x1, x2, x3⟩, xf⟩ := S.oz
        have ⟨⟨e0, e1, e2, e3⟩, ef⟩ := S.ob
        have S' := Hide.mk (S.turn0 (y - 1))
        replace S := Hide.mk S
        go_wp2
        refine bodyPost_ret (v := exV (y - 1) (a) (c) (.slice pu nu cu)) (by simp [results, Try.results17, go_sem, *]) rfl ?_
        exact bent_done S'.out.rd S'.out.tc hk (by omega) (by have := S'.out.tl; omega) S'.out.kids
      have n0 : (z == 0) = false := beq_false_of_ne g0
      by_cases g1 : z = 1
      · subst g1
        have le := ob_lt S.ob
        go_wp2_with fail
        have AC := three wz 3
        replace S := S.kept (below_new wz (.cells #[.int .i64 1001, .int .i64 (-1001), .int .i64 1] 3))
        have sz3 : wz.heap.size < (wz.alloc (.cells #[.int .i64 1001, .int .i64 (-1001), .int .i64 1] 3)).heap.size := by rw [size_new]; omega
        have szk := S.lt
        have sze : eb < wz.heap.size := le
        have hne : wz.heap.size ≠ k := by omega
        obtain ⟨ab, hab⟩ : ∃ ab, ab = wz.heap.size := ⟨_, rfl⟩
        rw [← hab] at sz3 AC hne ⊢
        generalize (wz.alloc (.cells #[.int .i64 1001, .int .i64 (-1001), .int .i64 1] 3)) = wa at *
        clear hab
        obtain ⟨q, R, hq⟩ := S.rd
        refine (pick_any _ k _ _ (by omega) R).mono ?_
        rintro e wy ⟨y, rfl, y0, y1, R', T'⟩
        replace S := S.read (M' := p + 1 + (4 + 1) * 15170870 + 2) T' ⟨_, R', by omega⟩
        replace y1 := y1 (by omega)
        clear R R' hq q
        obtain ⟨xx, hxx⟩ := AC y y0 y1
        replace hxx := (T'.cell sz3 hne).trans hxx
        clear T' AC
        have nz1 : w.heap.size ≠ eb := Nat.ne_of_lt S.lt.1
        have nz2 : eb ≠ w.heap.size := Ne.symm nz1
        have ⟨⟨x0, x1, x2, x3⟩, xf⟩ := S.oz
        have ⟨⟨e0, e1, e2, e3⟩, ef⟩ := S.ob
        have S' := Hide.mk (S.turn1 xx)
        replace S := Hide.mk S
        go_wp2
        refine bodyPost_ret (v := exV (kk) (xx) (c) (.slice pu nu cu)) (by simp [results, Try.results17, go_sem, *]) rfl ?_
        exact bent_done S'.out.rd S'.out.tc hk (by omega) (by have := S'.out.tl; omega) S'.out.kids
      have n1 : (z == 1) = false := beq_false_of_ne g1
      by_cases g2 : z = 2
      · subst g2
        have le := ob_lt S.oz
        have K2 := twice_kids (kk := kk) (a := a) (c := c) S.kids 25 le
        have S' := S.kept (below_new wz (.cells #[.int .i64 kk, .int .i64 a, .int .i64 c, .slice pu nu cu, .int .i64 kk, .int .i64 a, .int .i64 c, .slice pu nu cu] 25))
        have nz1 : w.heap.size ≠ eb := Nat.ne_of_lt S.lt.1
        have nz2 : eb ≠ w.heap.size := Ne.symm nz1
        have ⟨⟨x0, x1, x2, x3⟩, xf⟩ := S.oz
        have ⟨⟨e0, e1, e2, e3⟩, ef⟩ := S.ob
        replace S := Hide.mk S
        replace S' := Hide.mk S'
        replace K2 := Hide.mk K2
        go_wp2
        refine bodyPost_ret (v := exV 5 0 0 (.slice (some ⟨wz.heap.size, 0, none⟩) 2 2)) (by simp [results, Try.results17, go_sem, *]) rfl ?_
        have fin := bent_done (kk := 5) (a := 0) (c := 0) (p := p) (B := 80000000) S'.out.rd S'.out.tc hk (by omega) (by show 2 ≤ 3; omega) K2.out
        rw [← set4_alloc wz le] at fin
        exact fin
      have n2 : (z == 2) = false := beq_false_of_ne g2
      by_cases g3 : z = 3
      · subst g3
        have S1 := S.kept (below_new wz (.cells #[.int .i64 1, .int .i64 0, .int .i64 1, .slice none 0 0] 25))
        obtain ⟨pv, nv, cv, wb, hr, O1, O2, K3, R3, T3⟩ := S1.grow (cp := 1) (Ex.new wz 1 0 1 (.slice none 0 0) 25) 23
        have nz1 : w.heap.size ≠ eb := Nat.ne_of_lt S.lt.1
        have nz2 : eb ≠ w.heap.size := Ne.symm nz1
        have ⟨⟨x0, x1, x2, x3⟩, xf⟩ := S.oz
        have ⟨⟨e0, e1, e2, e3⟩, ef⟩ := S.ob
        have tl := S.tl
        have lt := S.lt
        replace S := Hide.mk S
        replace S1 := Hide.mk S1
        replace hr := Hide.mk hr
        have K4 := Hide.mk (K3.turn (w' := wb.setCell ⟨eb, 3, none⟩ (.slice pv nv cv)) (S' := fun b => w.heap.size < b) (fun b hb _ => Below.heap_setCell _ _ _ _ (by exact hb.2)) (fun b hb _ => hb.1))
        have R4 : Hide (∃ q, Rd (wb.setCell ⟨eb, 3, none⟩ (.slice pv nv cv)) k q ∧ q ≤ p + 1 + (4 + 1) * 15170870 + 1) := ⟨let ⟨q, R, h⟩ := R3; ⟨q, rd_moved R (Below.heap_setCell _ _ _ _ (by show k ≠ eb; omega)) (fun j hj => Below.heap_setCell _ _ _ _ (by show j ≠ eb; omega)), h⟩⟩
        have T4 := Hide.mk (T3.trans (Tch.ofBelow ((Below.refl w.heap.size wb).setCell (p := ⟨eb, 3, none⟩) (by show _ ≤ eb; omega) (.slice pv nv cv))))
        have ⟨⟨y0, y1, y2, y3⟩, yf⟩ := O2
        have ⟨⟨f0, f1, f2, f3⟩, ff⟩ := O1
        replace K3 := Hide.mk K3
        replace R3 := Hide.mk R3
        replace T3 := Hide.mk T3
        replace O1 := Hide.mk O1
        replace O2 := Hide.mk O2
        go_wp2_with (first | (at_builtin; refine wpRun rfl (run_app rfl rfl rfl hr.out) ?_))
        refine bodyPost_ret (v := exV kk a c (.slice pv nv cv)) (by simp [results, Try.results17, go_sem, *]) rfl ?_
        exact bent_done R4.out T4.out hk (by omega) (by rw [snoc_len]; omega) K4.out
      have n3 : (z == 3) = false := beq_false_of_ne g3
      have nz1 : w.heap.size ≠ eb := Nat.ne_of_lt S.lt.1
      have nz2 : eb ≠ w.heap.size := Ne.symm nz1
      have ⟨⟨x0, x1, x2, x3⟩, xf⟩ := S.oz
      have ⟨⟨e0, e1, e2, e3⟩, ef⟩ := S.ob
      replace S := Hide.mk S
      go_wp2
      refine bodyPost_ret (v := exV (kk) (a) (c) (.slice pu nu cu)) (by simp [results, Try.results17, go_sem, *]) rfl ?_
      exact bent_done S.out.rd S.out.tc hk (by omega) (by have := S.out.tl; omega) S.out.kids
    have d4 : (j : Int) < 4 := by omega
    go_wp2_with fail
    obtain ⟨q, R, hq⟩ := S.rd
    refine (pick_any _ k _ _ (by omega) R).mono ?_
    rintro e ws ⟨s, rfl, s0, s1, R', T'⟩
    replace S := S.read (M' := p + 1 + (j + 1) * 15170870 + 1) T' ⟨_, R', by omega⟩
    replace s1 := s1 (by omega)
    clear R R' hq q
    clear T'
    by_cases hs : 0 < s
    · have KS := sExprSpan_any kk a c t (.slice pu nu cu) ws S.kids.kids
      replace KS := Hide.mk KS
      have ⟨⟨e0, e1, e2, e3⟩, ef⟩ := S.ob
      go_wp2_with fail
      clear e0 e1 e2 e3 ef
      refine (KS.out).mono ?_
      clear KS
      rintro e wp ⟨rfl, Bx⟩
      replace S := S.kept Bx
      clear Bx
      cases hS : spanE kk a c t
      · simp only [pS, Option.isSome]
        replace S := S.kept (below_new wp (.cells #[.int .i64 0, .int .i64 0] 58))
        go_wp2_with fail
        generalize (wp.alloc (.cells #[.int .i64 0, .int .i64 0] 58)) = wq at *
        obtain ⟨q, R, hq⟩ := S.rd
        refine (pick_any _ k _ _ (by omega) R).mono ?_
        rintro e wy ⟨y, rfl, y0, y1, R', T'⟩
        replace S := S.read (M' := p + 1 + (j + 1) * 15170870 + 2) T' ⟨_, R', by omega⟩
        replace y1 := y1 (by omega)
        clear R R' hq q
        clear T'
        go_wp2_with fail
        have leb := ob_lt S.ob
        obtain ⟨q, R, hq⟩ := S.rd
        refine (l71Expr_any ex 4 (1 + y) _ k q (by omega) (by omega) (by omega) (by omega) R).mono ?_
        rintro e wv ⟨kk', a', c', t', u', q', rfl, OW, tl', R', hq', T'⟩
        replace S := S.read (M' := p + 1 + (j + 1 + 1) * 15170870) T' ⟨q', R', by omega⟩
        have le := ob_lt S.ob
        obtain ⟨pu', _, cu', rfl, rfl, _⟩ := OW.kids
        have lb : eb < wy.heap.size := leb
        have S' := Hide.mk (S.laid (kk' := kk') (a' := a') (c' := c') OW lb tl')
        have ⟨⟨e0, e1, e2, e3⟩, ef⟩ := S.ob
        clear R R' hq hq' T' OW
        replace S := Hide.mk S
        go_wp2
        go_round
        case rel => exact ⟨j + 1, kk', a', c', t', pu', t'.len, cu', by rw [show ((j + 1 : Nat) : Int) = (j : Int) + 1 by omega], by omega, S'.out⟩
        case measure => simp; omega
      · rename_i s0
        simp only [pS, Option.isSome]
        obtain ⟨sl, sh⟩ := s0
        simp only [spV]
        replace S := S.kept (below_new wp (.cells #[.int .i64 sl, .int .i64 sh] 58))
        go_wp2_with fail
        generalize (wp.alloc (.cells #[.int .i64 sl, .int .i64 sh] 58)) = wq at *
        obtain ⟨q, R, hq⟩ := S.rd
        refine (pick_any _ k _ _ (by omega) R).mono ?_
        rintro e wz ⟨z, rfl, z0, z1, R', T'⟩
        replace S := S.read (M' := p + 1 + (j + 1) * 15170870 + 1 + 1) T' ⟨_, R', by omega⟩
        replace z1 := z1 (by omega)
        clear R R' hq q
        clear T'
        by_cases g0 : z = 0
        · subst g0
          go_wp2_with fail
          obtain ⟨q, R, hq⟩ := S.rd
          refine (pick_any _ k _ _ (by omega) R).mono ?_
          rintro e wy ⟨y, rfl, y0, y1, R', T'⟩
          replace S := S.read (M' := p + 1 + (j + 1) * 15170870 + 1 + 2) T' ⟨_, R', by omega⟩
          replace y1 := y1 (by omega)
          clear R R' hq q
          clear T'
          have nz1 : w.heap.size ≠ eb := Nat.ne_of_lt S.lt.1
          have nz2 : eb ≠ w.heap.size := Ne.symm nz1
          have ⟨⟨x0, x1, x2, x3⟩, xf⟩ := S.oz
          have ⟨⟨e0, e1, e2, e3⟩, ef⟩ := S.ob
          have S' := Hide.mk (S.turn0 (y - 1))
          replace S := Hide.mk S
          go_wp2
          refine bodyPost_ret (v := exV (y - 1) (a) (c) (.slice pu nu cu)) (by simp [results, Try.results17, go_sem, *]) rfl ?_
          exact bent_done S'.out.rd S'.out.tc hk (by omega) (by have := S'.out.tl; omega) S'.out.kids
        have n0 : (z == 0) = false := beq_false_of_ne g0
        by_cases g1 : z = 1
        · subst g1
          have le := ob_lt S.ob
          go_wp2_with fail
          have AC := three wz 3
          replace S := S.kept (below_new wz (.cells #[.int .i64 1001, .int .i64 (-1001), .int .i64 1] 3))
          have sz3 : wz.heap.size < (wz.alloc (.cells #[.int .i64 1001, .int .i64 (-1001), .int .i64 1] 3)).heap.size := by rw [size_new]; omega
          have szk := S.lt
          have sze : eb < wz.heap.size := le
          have hne : wz.heap.size ≠ k := by omega
          obtain ⟨ab, hab⟩ : ∃ ab, ab = wz.heap.size := ⟨_, rfl⟩
          rw [← hab] at sz3 AC hne ⊢
          generalize (wz.alloc (.cells #[.int .i64 1001, .int .i64 (-1001), .int .i64 1] 3)) = wa at *
          clear hab
          obtain ⟨q, R, hq⟩ := S.rd
          refine (pick_any _ k _ _ (by omega) R).mono ?_
          rintro e wy ⟨y, rfl, y0, y1, R', T'⟩
          replace S := S.read (M' := p + 1 + (j + 1) * 15170870 + 1 + 2) T' ⟨_, R', by omega⟩
          replace y1 := y1 (by omega)
          clear R R' hq q
          obtain ⟨xx, hxx⟩ := AC y y0 y1
          replace hxx := (T'.cell sz3 hne).trans hxx
          clear T' AC
          have nz1 : w.heap.size ≠ eb := Nat.ne_of_lt S.lt.1
          have nz2 : eb ≠ w.heap.size := Ne.symm nz1
          have ⟨⟨x0, x1, x2, x3⟩, xf⟩ := S.oz
          have ⟨⟨e0, e1, e2, e3⟩, ef⟩ := S.ob
          have S' := Hide.mk (S.turn1 xx)
          replace S := Hide.mk S
          go_wp2
          refine bodyPost_ret (v := exV (kk) (xx) (c) (.slice pu nu cu)) (by simp [results, Try.results17, go_sem, *]) rfl ?_
          exact bent_done S'.out.rd S'.out.tc hk (by omega) (by have := S'.out.tl; omega) S'.out.kids
        have n1 : (z == 1) = false := beq_false_of_ne g1
        by_cases g2 : z = 2
        · subst g2
          have le := ob_lt S.oz
          have K2 := twice_kids (kk := kk) (a := a) (c := c) S.kids 25 le
          have S' := S.kept (below_new wz (.cells #[.int .i64 kk, .int .i64 a, .int .i64 c, .slice pu nu cu, .int .i64 kk, .int .i64 a, .int .i64 c, .slice pu nu cu] 25))
          have nz1 : w.heap.size ≠ eb := Nat.ne_of_lt S.lt.1
          have nz2 : eb ≠ w.heap.size := Ne.symm nz1
          have ⟨⟨x0, x1, x2, x3⟩, xf⟩ := S.oz
          have ⟨⟨e0, e1, e2, e3⟩, ef⟩ := S.ob
          replace S := Hide.mk S
          replace S' := Hide.mk S'
          replace K2 := Hide.mk K2
          go_wp2
          refine bodyPost_ret (v := exV 5 0 0 (.slice (some ⟨wz.heap.size, 0, none⟩) 2 2)) (by simp [results, Try.results17, go_sem, *]) rfl ?_
          have fin := bent_done (kk := 5) (a := 0) (c := 0) (p := p) (B := 80000000) S'.out.rd S'.out.tc hk (by omega) (by show 2 ≤ 3; omega) K2.out
          rw [← set4_alloc wz le] at fin
          exact fin
        have n2 : (z == 2) = false := beq_false_of_ne g2
        by_cases g3 : z = 3
        · subst g3
          have S1 := S.kept (below_new wz (.cells #[.int .i64 1, .int .i64 0, .int .i64 1, .slice none 0 0] 25))
          obtain ⟨pv, nv, cv, wb, hr, O1, O2, K3, R3, T3⟩ := S1.grow (cp := 1) (Ex.new wz 1 0 1 (.slice none 0 0) 25) 23
          have nz1 : w.heap.size ≠ eb := Nat.ne_of_lt S.lt.1
          have nz2 : eb ≠ w.heap.size := Ne.symm nz1
          have ⟨⟨x0, x1, x2, x3⟩, xf⟩ := S.oz
          have ⟨⟨e0, e1, e2, e3⟩, ef⟩ := S.ob
          have tl := S.tl
          have lt := S.lt
          replace S := Hide.mk S
          replace S1 := Hide.mk S1
          replace hr := Hide.mk hr
          have K4 := Hide.mk (K3.turn (w' := wb.setCell ⟨eb, 3, none⟩ (.slice pv nv cv)) (S' := fun b => w.heap.size < b) (fun b hb _ => Below.heap_setCell _ _ _ _ (by exact hb.2)) (fun b hb _ => hb.1))
          have R4 : Hide (∃ q, Rd (wb.setCell ⟨eb, 3, none⟩ (.slice pv nv cv)) k q ∧ q ≤ p + 1 + (j + 1) * 15170870 + 1 + 1) := ⟨let ⟨q, R, h⟩ := R3; ⟨q, rd_moved R (Below.heap_setCell _ _ _ _ (by show k ≠ eb; omega)) (fun j hj => Below.heap_setCell _ _ _ _ (by show j ≠ eb; omega)), h⟩⟩
          have T4 := Hide.mk (T3.trans (Tch.ofBelow ((Below.refl w.heap.size wb).setCell (p := ⟨eb, 3, none⟩) (by show _ ≤ eb; omega) (.slice pv nv cv))))
          have ⟨⟨y0, y1, y2, y3⟩, yf⟩ := O2
          have ⟨⟨f0, f1, f2, f3⟩, ff⟩ := O1
          replace K3 := Hide.mk K3
          replace R3 := Hide.mk R3
          replace T3 := Hide.mk T3
          replace O1 := Hide.mk O1
          replace O2 := Hide.mk O2
          go_wp2_with (first | (at_builtin; refine wpRun rfl (run_app rfl rfl rfl hr.out) ?_))
          refine bodyPost_ret (v := exV kk a c (.slice pv nv cv)) (by simp [results, Try.results17, go_sem, *]) rfl ?_
          exact bent_done R4.out T4.out hk (by omega) (by rw [snoc_len]; omega) K4.out
        have n3 : (z == 3) = false := beq_false_of_ne g3
        have nz1 : w.heap.size ≠ eb := Nat.ne_of_lt S.lt.1
        have nz2 : eb ≠ w.heap.size := Ne.symm nz1
        have ⟨⟨x0, x1, x2, x3⟩, xf⟩ := S.oz
        have ⟨⟨e0, e1, e2, e3⟩, ef⟩ := S.ob
        replace S := Hide.mk S
        go_wp2
        refine bodyPost_ret (v := exV (kk) (a) (c) (.slice pu nu cu)) (by simp [results, Try.results17, go_sem, *]) rfl ?_
        exact bent_done S.out.rd S.out.tc hk (by omega) (by have := S.out.tl; omega) S.out.kids
    go_wp2_with fail
    obtain ⟨q, R, hq⟩ := S.rd
    refine (pick_any _ k _ _ (by omega) R).mono ?_
    rintro e wz ⟨z, rfl, z0, z1, R', T'⟩
    replace S := S.read (M' := p + 1 + (j + 1) * 15170870 + 1 + 1) T' ⟨_, R', by omega⟩
    replace z1 := z1 (by omega)
    clear R R' hq q
    clear T'
    by_cases g0 : z = 0
    · subst g0
      go_wp2_with fail
      obtain ⟨q, R, hq⟩ := S.rd
      refine (pick_any _ k _ _ (by omega) R).mono ?_
      rintro e wy ⟨y, rfl, y0, y1, R', T'⟩
      replace S := S.read (M' := p + 1 + (j + 1) * 15170870 + 1 + 2) T' ⟨_, R', by omega⟩
      replace y1 := y1 (by omega)
      clear R R' hq q
      clear T'
      have nz1 : w.heap.size ≠ eb := Nat.ne_of_lt S.lt.1
      have nz2 : eb ≠ w.heap.size := Ne.symm nz1
      have ⟨⟨x0, x1, x2, x3⟩, xf⟩ := S.oz
      have ⟨⟨e0, e1, e2, e3⟩, ef⟩ := S.ob
      have S' := Hide.mk (S.turn0 (y - 1))
      replace S := Hide.mk S
      go_wp2
      refine bodyPost_ret (v := exV (y - 1) (a) (c) (.slice pu nu cu)) (by simp [results, Try.results17, go_sem, *]) rfl ?_
      exact bent_done S'.out.rd S'.out.tc hk (by omega) (by have := S'.out.tl; omega) S'.out.kids
    have n0 : (z == 0) = false := beq_false_of_ne g0
    by_cases g1 : z = 1
    · subst g1
      have le := ob_lt S.ob
      go_wp2_with fail
      have AC := three wz 3
      replace S := S.kept (below_new wz (.cells #[.int .i64 1001, .int .i64 (-1001), .int .i64 1] 3))
      have sz3 : wz.heap.size < (wz.alloc (.cells #[.int .i64 1001, .int .i64 (-1001), .int .i64 1] 3)).heap.size := by rw [size_new]; omega
      have szk := S.lt
      have sze : eb < wz.heap.size := le
      have hne : wz.heap.size ≠ k := by omega
      obtain ⟨ab, hab⟩ : ∃ ab, ab = wz.heap.size := ⟨_, rfl⟩
      rw [← hab] at sz3 AC hne ⊢
      generalize (wz.alloc (.cells #[.int .i64 1001, .int .i64 (-1001), .int .i64 1] 3)) = wa at *
      clear hab
      obtain ⟨q, R, hq⟩ := S.rd
      refine (pick_any _ k _ _ (by omega) R).mono ?_
      rintro e wy ⟨y, rfl, y0, y1, R', T'⟩
      replace S := S.read (M' := p + 1 + (j + 1) * 15170870 + 1 + 2) T' ⟨_, R', by omega⟩
      replace y1 := y1 (by omega)
      clear R R' hq q
      obtain ⟨xx, hxx⟩ := AC y y0 y1
      replace hxx := (T'.cell sz3 hne).trans hxx
      clear T' AC
      have nz1 : w.heap.size ≠ eb := Nat.ne_of_lt S.lt.1
      have nz2 : eb ≠ w.heap.size := Ne.symm nz1
      have ⟨⟨x0, x1, x2, x3⟩, xf⟩ := S.oz
      have ⟨⟨e0, e1, e2, e3⟩, ef⟩ := S.ob
      have S' := Hide.mk (S.turn1 xx)
      replace S := Hide.mk S
      go_wp2
      refine bodyPost_ret (v := exV (kk) (xx) (c) (.slice pu nu cu)) (by simp [results, Try.results17, go_sem, *]) rfl ?_
      exact bent_done S'.out.rd S'.out.tc hk (by omega) (by have := S'.out.tl; omega) S'.out.kids
    have n1 : (z == 1) = false := beq_false_of_ne g1
    by_cases g2 : z = 2
    · subst g2
      have le := ob_lt S.oz
      have K2 := twice_kids (kk := kk) (a := a) (c := c) S.kids 25 le
      have S' := S.kept (below_new wz (.cells #[.int .i64 kk, .int .i64 a, .int .i64 c, .slice pu nu cu, .int .i64 kk, .int .i64 a, .int .i64 c, .slice pu nu cu] 25))
      have nz1 : w.heap.size ≠ eb := Nat.ne_of_lt S.lt.1
      have nz2 : eb ≠ w.heap.size := Ne.symm nz1
      have ⟨⟨x0, x1, x2, x3⟩, xf⟩ := S.oz
      have ⟨⟨e0, e1, e2, e3⟩, ef⟩ := S.ob
      replace S := Hide.mk S
      replace S' := Hide.mk S'
      replace K2 := Hide.mk K2
      go_wp2
      refine bodyPost_ret (v := exV 5 0 0 (.slice (some ⟨wz.heap.size, 0, none⟩) 2 2)) (by simp [results, Try.results17, go_sem, *]) rfl ?_
      have fin := bent_done (kk := 5) (a := 0) (c := 0) (p := p) (B := 80000000) S'.out.rd S'.out.tc hk (by omega) (by show 2 ≤ 3; omega) K2.out
      rw [← set4_alloc wz le] at fin
      exact fin
    have n2 : (z == 2) = false := beq_false_of_ne g2
    by_cases g3 : z = 3
    · subst g3
      have S1 := S.kept (below_new wz (.cells #[.int .i64 1, .int .i64 0, .int .i64 1, .slice none 0 0] 25))
      obtain ⟨pv, nv, cv, wb, hr, O1, O2, K3, R3, T3⟩ := S1.grow (cp := 1) (Ex.new wz 1 0 1 (.slice none 0 0) 25) 23
      have nz1 : w.heap.size ≠ eb := Nat.ne_of_lt S.lt.1
      have nz2 : eb ≠ w.heap.size := Ne.symm nz1
      have ⟨⟨x0, x1, x2, x3⟩, xf⟩ := S.oz
      have ⟨⟨e0, e1, e2, e3⟩, ef⟩ := S.ob
      have tl := S.tl
      have lt := S.lt
      replace S := Hide.mk S
      replace S1 := Hide.mk S1
      replace hr := Hide.mk hr
      have K4 := Hide.mk (K3.turn (w' := wb.setCell ⟨eb, 3, none⟩ (.slice pv nv cv)) (S' := fun b => w.heap.size < b) (fun b hb _ => Below.heap_setCell _ _ _ _ (by exact hb.2)) (fun b hb _ => hb.1))
      have R4 : Hide (∃ q, Rd (wb.setCell ⟨eb, 3, none⟩ (.slice pv nv cv)) k q ∧ q ≤ p + 1 + (j + 1) * 15170870 + 1 + 1) := ⟨let ⟨q, R, h⟩ := R3; ⟨q, rd_moved R (Below.heap_setCell _ _ _ _ (by show k ≠ eb; omega)) (fun j hj => Below.heap_setCell _ _ _ _ (by show j ≠ eb; omega)), h⟩⟩
      have T4 := Hide.mk (T3.trans (Tch.ofBelow ((Below.refl w.heap.size wb).setCell (p := ⟨eb, 3, none⟩) (by show _ ≤ eb; omega) (.slice pv nv cv))))
      have ⟨⟨y0, y1, y2, y3⟩, yf⟩ := O2
      have ⟨⟨f0, f1, f2, f3⟩, ff⟩ := O1
      replace K3 := Hide.mk K3
      replace R3 := Hide.mk R3
      replace T3 := Hide.mk T3
      replace O1 := Hide.mk O1
      replace O2 := Hide.mk O2
      go_wp2_with (first | (at_builtin; refine wpRun rfl (run_app rfl rfl rfl hr.out) ?_))
      refine bodyPost_ret (v := exV kk a c (.slice pv nv cv)) (by simp [results, Try.results17, go_sem, *]) rfl ?_
      exact bent_done R4.out T4.out hk (by omega) (by rw [snoc_len]; omega) K4.out
    have n3 : (z == 3) = false := beq_false_of_ne g3
    have nz1 : w.heap.size ≠ eb := Nat.ne_of_lt S.lt.1
    have nz2 : eb ≠ w.heap.size := Ne.symm nz1
    have ⟨⟨x0, x1, x2, x3⟩, xf⟩ := S.oz
    have ⟨⟨e0, e1, e2, e3⟩, ef⟩ := S.ob
    replace S := Hide.mk S
    go_wp2
    refine bodyPost_ret (v := exV (kk) (a) (c) (.slice pu nu cu)) (by simp [results, Try.results17, go_sem, *]) rfl ?_
    exact bent_done S.out.rd S.out.tc hk (by omega) (by have := S.out.tl; omega) S.out.kids
end DX
end Go.Proofs.Ytlkompbigpbefab
