/-
  A tree copied: what the laws' toExpr and toExprS return.
-/
import Derived.Test.YtlkompbigpbefabExprFresh
import Derived.Test.YtlkompbigpbefabExprSpan1
import Derived.OwnWalk
import Derived.LoopTactic
import Derived.LoopN
import Derived.WalkKit
namespace Go.Proofs.Ytlkompbigpbefab
open Go.RowKit Go.Joins
set_option linter.unusedVariables false
set_option maxRecDepth 8000
namespace ER
open EM SK
/-- An Expr of the call's own lies in a block. -/
structure Ob (w : World) (b : Nat) (k a c : Int) (v : Value) : Prop where
  e : Ex w b k a c v
  f : ∀ o, w.frozen? ⟨b, o, none⟩ = false
theorem Ob.kept {w w' : World} {b : Nat} {k a c : Int} {v : Value} (h : Ob w b k a c v) (x : Below w.heap.size w w') : Ob w' b k a c v :=
  ⟨h.e.kept x, fun o => (x.frozen (cell_lt h.e.c0)).trans (h.f o)⟩
theorem Ob.new (w : World) (k a c : Int) (v : Value) (t : TypeId) : Ob (w.alloc (.cells #[.int .i64 k, .int .i64 a, .int .i64 c, v] t)) w.heap.size k a c v :=
  ⟨Ex.new w k a c v t, fun o => by simp [go_sem]⟩
def PC (t : F) : Prop := ∀ (v : Value) (w : World), Kids w t v → t.cnt ≤ 1048576 →
    Calls Try.prog 24 #[v] w fun e w' => ∃ u, e = .returned u ∧ KidsG w.heap.size w' t u ∧ Below w.heap.size w w'
def AllC : F → Prop
  | .nil => True
  | .cons _ _ _ t r => PC t ∧ AllC r
set_option maxHeartbeats 4000000 in
theorem to_one (k a c : Int) (t : F) (v : Value) (w : World) (h : PC t) (hk : Kids w t v) (hc : t.cnt ≤ 1048576) :
    Calls Try.prog 14 #[exV k a c v] w fun e w' => ∃ u, e = .returned (exV k a c u) ∧ KidsG w.heap.size w' t u ∧ Below w.heap.size w w' := by
  obtain ⟨p, _, cap, rfl, rfl, hr⟩ := hk
  have hk : Hide (Kids w t (.slice p t.len cap)) := ⟨p, _, cap, rfl, rfl, hr⟩
  replace hc := Hide.mk hc
  clear hr
  have E := Ex.new w k a c (.slice p t.len cap) 33
  have E' := (fun o o' => (E.kept (below_new _ o)).kept (below_new _ o'))
  have e0 := fun o o' => (E' o o').c0
  have e1 := fun o o' => (E' o o').c1
  have e2 := fun o o' => (E' o o').c2
  have e3 := fun o o' => (E' o o').c3
  go_enter Try.func14, Try.ntmps14
  go_wp2_with fail
  have X1 := ((Ob.new (w.alloc (.cells #[.int .i64 k, .int .i64 a, .int .i64 c, .slice p t.len cap] 33)) 0 0 0 (.slice none 0 0) 25).kept (below_new _ (.cells #[.int .i64 k, .int .i64 a, .int .i64 c, .slice none 0 0] 25)))
  have X2 := (Ob.new ((w.alloc (.cells #[.int .i64 k, .int .i64 a, .int .i64 c, .slice p t.len cap] 33)).alloc (.cells #[.int .i64 0, .int .i64 0, .int .i64 0, .slice none 0 0] 25)) k a c (.slice none 0 0) 25)
  rw [size_new] at X1
  rw [size_new, size_new] at X2
  have B := below1 (below_new w (.cells #[.int .i64 k, .int .i64 a, .int .i64 c, .slice p t.len cap] 33)) (below_new2 (w.alloc (.cells #[.int .i64 k, .int .i64 a, .int .i64 c, .slice p t.len cap] 33)) (.cells #[.int .i64 0, .int .i64 0, .int .i64 0, .slice none 0 0] 25) (.cells #[.int .i64 k, .int .i64 a, .int .i64 c, .slice none 0 0] 25))
  have Z : (((w.alloc (.cells #[.int .i64 k, .int .i64 a, .int .i64 c, .slice p t.len cap] 33)).alloc (.cells #[.int .i64 0, .int .i64 0, .int .i64 0, .slice none 0 0] 25)).alloc (.cells #[.int .i64 k, .int .i64 a, .int .i64 c, .slice none 0 0] 25)).heap.size = w.heap.size + 3 := by rw [size_new, size_new, size_new]
  clear e0 e1 e2 e3 E' E
  generalize (((w.alloc (.cells #[.int .i64 k, .int .i64 a, .int .i64 c, .slice p t.len cap] 33)).alloc (.cells #[.int .i64 0, .int .i64 0, .int .i64 0, .slice none 0 0] 25)).alloc (.cells #[.int .i64 k, .int .i64 a, .int .i64 c, .slice none 0 0] 25)) = w1 at *
  refine (h _ w1 (hk.out.kept B) hc.out).mono ?_
  rintro e w2 ⟨u, rfl, G, Bx⟩
  rw [Z] at G
  replace X1 := X1.kept Bx
  replace X2 := X2.kept Bx
  replace Z := Bx.size
  replace B := below1 B Bx
  clear Bx
  obtain ⟨p', n', cap', rfl, h5, h6⟩ := G
  have G : Hide (KidsG (w.heap.size + 3) w2 t (.slice p' n' cap')) := ⟨p', n', cap', rfl, h5, h6⟩
  clear h5 h6
  obtain ⟨⟨x0, x1, x2, x3⟩, xf⟩ := X1
  obtain ⟨⟨y0, y1, y2, y3⟩, yf⟩ := X2
  go_wp2
  refine bodyPost_ret (v := exV k a c (.slice p' n' cap')) (by simp [results, Try.results14, go_sem, *]) rfl ⟨_, rfl, ?_, ?_⟩
  · refine KidsG.weak (base' := w.heap.size + 3) (by omega) (KidsG.keep (base := w.heap.size + 3) (w := w2) ?_ (Nat.le_refl _) G.out)
    intro j hj _
    rw [Below.heap_setCell _ _ _ _ (by dsimp only; omega), Below.heap_setCell _ _ _ _ (by dsimp only; omega), Below.heap_setCell _ _ _ _ (by dsimp only; omega), Below.heap_setCell _ _ _ _ (by dsimp only; omega), Below.heap_setCell _ _ _ _ (by dsimp only; omega)]
  · exact ((((B.setCell (by dsimp only; omega) _).setCell (by dsimp only; omega) _).setCell (by dsimp only; omega) _).setCell (by dsimp only; omega) _).setCell (by dsimp only; omega) _
theorem infoExpr : (Try.prog.info? 25).map (fun i => (i.zero, i.size, i.bytes)) = some (some (exV 0 0 0 (.slice none 0 0)), 4, 48) := by kernel_rfl
/-- A block of so many Exprs of the call's own. -/
def Blk (w : World) (g n : Nat) : Prop := ∃ cur, w.heap[g]? = some (.cells cur 25 (0, 0)) ∧ cur.size = n * 4
theorem Blk.kept {w w' : World} {g n : Nat} (h : Blk w g n) (B : Below w.heap.size w w') : Blk w' g n := by
  obtain ⟨cur, h1, h2⟩ := h
  exact ⟨cur, (B.block g (Array.getElem?_eq_some_iff.1 h1).1).trans h1, h2⟩
theorem made {w w1 : World} {n : Nat} {xs : List Value} (hO : w1.ownsRow w.heap.size 25 4 (.slice (some ⟨w.heap.size, 0, none⟩) n n) n xs) : Blk w1 w.heap.size n := by
  obtain ⟨_, ⟨h0, _⟩ | ⟨g, cap, cur, hv, hb, hh, hn, hm, hs, ht⟩⟩ := hO
  · cases h0
  · injection hv with e1 e2 e3
    injection e1 with e1
    injection e1 with e1
    subst e1 e3
    exact ⟨cur, hh, hs⟩
theorem made_below {w w1 : World} (hg : w.grownBy w1 none) : Below w.heap.size w w1 := (Below.refl _ _).grown hg (Nat.le_refl _) fun k hk => by cases hk
theorem nodeG_keep {base base' : Nat} {w w' : World} {b o : Nat} {x : Int × Int × Int × F} (h : Keeps base w w') (hb : base ≤ base') (hbb : base ≤ b) (k : NodeG base' w b o x) : NodeG base' w' b o x := by
  obtain ⟨⟨h1, h2, h3⟩, v, h4, h5⟩ := k
  exact ⟨⟨h.cell hbb h1, h.cell hbb h2, h.cell hbb h3⟩, v, h.cell hbb h4, h5.keep h hb⟩
theorem nodeG_low {base : Nat} {w w' : World} {b o : Nat} {x : Int × Int × Int × F} (h : Below w.heap.size w w') (hb : b < w.heap.size) (k : NodeG base w b o x) : NodeG base w' b o x := by
  obtain ⟨⟨h1, h2, h3⟩, v, h4, h5⟩ := k
  exact ⟨⟨(h.cell hb).trans h1, (h.cell hb).trans h2, (h.cell hb).trans h3⟩, v, (h.cell hb).trans h4, h5.keep (base := 0) (keeps_below h) (Nat.zero_le _)⟩
/-- One node more is written. -/
theorem wrote {w : World} {g n i : Nat} {t : F} {k a c : Int} {s : F} {u : Value} (hB : Blk w g n) (hi : i < n) (hd : ∀ j x, j < i → nth t j = some x → NodeG (g + 1) w g (j * 4) x) (hx : nth t i = some (k, a, c, s)) (hu : KidsG (g + 1) w s u) :
    Blk (set4 w g (i * 4) (.int .i64 k) (.int .i64 a) (.int .i64 c) u) g n ∧ ∀ j x, j < i + 1 → nth t j = some x → NodeG (g + 1) (set4 w g (i * 4) (.int .i64 k) (.int .i64 a) (.int .i64 c) u) g (j * 4) x := by
  obtain ⟨cur, h1, h2⟩ := hB
  obtain ⟨cur', k1, k2, k3, k4, k5, k6, k7⟩ := set4_block h1 (i := i * 4) (by omega) (.int .i64 k) (.int .i64 a) (.int .i64 c) u
  have K : Keeps (g + 1) w (set4 w g (i * 4) (.int .i64 k) (.int .i64 a) (.int .i64 c) u) := fun b hb _ => set4_other w _ _ _ _ (by omega)
  have ce : ∀ o, (set4 w g (i * 4) (.int .i64 k) (.int .i64 a) (.int .i64 c) u).cell? ⟨g, o, none⟩ = cur'[o]? := fun o => cell_of_block k1 o
  have co : ∀ o, w.cell? ⟨g, o, none⟩ = cur[o]? := fun o => cell_of_block h1 o
  refine ⟨⟨cur', k1, by omega⟩, fun j x hj hjx => ?_⟩
  by_cases e : j = i
  · subst e
    rw [hx] at hjx
    cases hjx
    refine ⟨⟨?_, ?_, ?_⟩, u, ?_, hu.keep K (Nat.le_refl _)⟩
    · rw [ce, k4]
    · rw [ce, k5]
    · rw [ce, k6]
    · rw [ce, k7]
  · obtain ⟨⟨m1, m2, m3⟩, v, m4, m5⟩ := hd j x (by omega) hjx
    rw [co] at m1 m2 m3 m4
    refine ⟨⟨?_, ?_, ?_⟩, v, ?_, m5.keep K (Nat.le_refl _)⟩
    · rw [ce, k3 _ (by omega), m1]
    · rw [ce, k3 _ (by omega), m2]
    · rw [ce, k3 _ (by omega), m3]
    · rw [ce, k3 _ (by omega), m4]
set_option maxHeartbeats 4000000 in
theorem to_step (t : F) (h : AllC t) : PC t := by
  intro v w hk hc
  obtain ⟨p, n, cap, rfl, hn, hr⟩ := hk
  have d0 := deep_nn t
  have c0 := cnt_deep t
  have n0 : n ≤ 1048576 := by omega
  obtain ⟨i0, hi, hz0, hz1, hz2⟩ := info_parts infoExpr
  have hb : i0.bytes * n ≤ 281474976710656 := by rw [hz2]; omega
  have hm : n ≤ maxLen := by simp only [maxLen]; omega
  rcases hr with hr | ⟨b, o, rfl, R⟩
  · have e := len0 hr
    subst e
    replace hn : n = 0 := hn
    subst hn
    clear c0 d0 h n0 hr
    replace hi := Hide.mk hi
    replace hz0 := Hide.mk hz0
    replace hz1 := Hide.mk hz1
    replace hb := Hide.mk hb
    replace hm := Hide.mk hm
    clear hz2 hc
    go_enter Try.func24, Try.ntmps24
    go_wp2_with (first | (at_make; (refine (wpList_make_full _ rfl _ _ 23 rfl w.heap.size 25 i0 (exV 0 0 0 (.slice none 0 0)) 4 Try.underlying23 hi.out hz0.out hz1.out .i64 .i64 _ _ 0 rfl rfl rfl rfl hb.out hm.out (Nat.le_refl _) ?_)); intro w1 hO hg; (have B := made_below hg); clear hO hg))
    refine wp_loop_rounds 1 ?_
    rw [rounds_succ]
    go_wp2
    go_ret
    exact ⟨_, rfl, ⟨_, _, _, rfl, rfl, .inl rfl⟩, B⟩
  subst hn
  obtain ⟨n, hn⟩ : ∃ n, n = t.len := ⟨_, rfl⟩
  rw [← hn] at n0 hb hm ⊢
  clear c0 d0 hz2
  replace hn := Hide.mk hn
  replace hi := Hide.mk hi
  replace hz0 := Hide.mk hz0
  replace hz1 := Hide.mk hz1
  replace hb := Hide.mk hb
  replace hm := Hide.mk hm
  replace hc := Hide.mk hc
  replace R := Hide.mk R
  go_enter Try.func24, Try.ntmps24
  go_wp2_with (first | (at_make; (refine (wpList_make_full _ rfl _ _ 23 rfl w.heap.size 25 i0 (exV 0 0 0 (.slice none 0 0)) 4 Try.underlying23 hi.out hz0.out hz1.out .i64 .i64 _ _ n rfl rfl rfl rfl hb.out hm.out (Nat.le_refl _) ?_)); intro w1 hO hg; (have B := made_below hg); (have K := Hide.mk (made hO)); clear hO hg))
  go_loopw [4] (fun s4 wr => ∃ (i : Nat) (r : F), s4 = .int .i64 i ∧ Hide (i + r.len = n) ∧ Hide (Row w r b (o + i * 4)) ∧ Hide (AllC r) ∧ Hide (r.cnt ≤ 1048576) ∧ Hide (Blk wr w.heap.size n) ∧ Hide (∀ j x, j < i → nth t j = some x → NodeG (w.heap.size + 1) wr w.heap.size (j * 4) x) ∧ Hide (∀ j, nth r j = nth t (i + j)) ∧ Below w.heap.size w wr)
    (fun s4 _ => match s4 with | .int _ i => (n - i.toNat) | _ => 0)
  case atStart => exact ⟨0, t, rfl, ⟨by rw [hn.out]; omega⟩, ⟨by rw [show o + 0 * 4 = o by omega]; exact R.out⟩, ⟨h⟩, hc, K, ⟨fun j x hj => absurd hj (by omega)⟩, ⟨fun j => by rw [Nat.zero_add]⟩, B⟩
  case round =>
    obtain ⟨i, r, rfl, hi', hR, hA, hC, hB, hd, hnth, B⟩ := hrel
    rcases r with _ | ⟨k, a, c, s, r⟩
    · have hi2 : (i : Int) = n := by have := hi'.out; simp only [F.len] at this; omega
      have G : Hide (KidsG w.heap.size wr t (.slice (some ⟨w.heap.size, 0, none⟩) n n)) := ⟨⟨_, _, _, rfl, hn.out, .inr ⟨_, _, rfl, Nat.le_refl _, RowG.weak (Nat.le_succ _) (rowG_of t _ _ fun j x hx => by
        rw [Nat.zero_add]
        exact hd.out j x (by have := nth_lt t j x hx; have := hn.out; omega) hx)⟩⟩⟩
      clear hd hnth hR hA hC hB
      go_wp2
      go_ret
      exact ⟨_, rfl, G.out, B⟩
    · have hi2 : (i : Int) < n := by have := hi'.out; simp only [F.len] at this; omega
      have S := Row.kept B hR.out
      obtain ⟨⟨q0, q1, q2⟩, ⟨p1, n1, c1, q3, hn1, hr1⟩, _⟩ := S
      have R' := hR.out.2.2
      subst hn1
      have hcs := s.cnt_nn
      have hcr := r.cnt_nn
      have hcc := hC.out
      simp only [F.cnt] at hcc
      have K := Hide.mk (to_one k a c s (.slice p1 s.len c1) wr hA.out.1 ⟨p1, _, c1, rfl, rfl, hr1⟩ (by omega))
      replace R' := Hide.mk R'
      replace hcc := Hide.mk hcc
      clear hr1 hR
      go_wp2_with fail
      refine (K.out).mono ?_
      rintro e w1 ⟨u, rfl, G, Bx⟩
      clear K q0 q1 q2 q3
      have B1 := SK.below1 B Bx
      have hB1 := hB.out.kept Bx
      have Kx := keeps_below (base := w.heap.size + 1) Bx
      have hlt : w.heap.size < wr.heap.size := by obtain ⟨cur, h1, _⟩ := hB.out; exact (Array.getElem?_eq_some_iff.1 h1).1
      have hd1 : Hide (∀ j x, j < i → nth t j = some x → NodeG (w.heap.size + 1) w1 w.heap.size (j * 4) x) := ⟨fun j x hj hx => nodeG_low Bx hlt (hd.out j x hj hx)⟩
      have G1 : Hide (KidsG (w.heap.size + 1) w1 s u) := ⟨KidsG.weak (by omega) G⟩
      have hx : Hide (nth t i = some (k, a, c, s)) := ⟨by have := hnth.out 0; rw [Nat.add_zero] at this; rw [← this]; rfl⟩
      obtain ⟨p', n', cap', rfl, -, -⟩ := G
      have cs : ∀ j, j < 4 → ∃ y, w1.cell? ⟨w.heap.size, i * 4 + j, none⟩ = some y := fun j hj => by
        obtain ⟨cur, h1, h2⟩ := hB1
        exact ⟨_, by rw [cell_of_block h1]; exact Array.getElem?_eq_getElem (by omega)⟩
      obtain ⟨y0, g0⟩ := cs 0 (by omega)
      obtain ⟨y1, g1⟩ := cs 1 (by omega)
      obtain ⟨y2, g2⟩ := cs 2 (by omega)
      obtain ⟨y3, g3⟩ := cs 3 (by omega)
      have gf : ∀ o, w1.frozen? ⟨w.heap.size, o, none⟩ = false := fun o => by obtain ⟨cur, h1, h2⟩ := hB1; exact unfrozen_of_block h1 o
      rw [Nat.add_zero] at g0
      replace hB1 := Hide.mk hB1
      clear cs Kx B Bx hB hd
      go_wp2
      go_roundw
      case measure => simp; omega
      case rel =>
        obtain ⟨W1, W2⟩ := wrote hB1.out (by omega) hd1.out hx.out G1.out
        refine ⟨i + 1, r, by rw [show ((i + 1 : Nat) : Int) = (i : Int) + 1 by omega], ⟨by have := hi'.out; simp only [F.len] at this; omega⟩, ⟨?_⟩, ⟨hA.out.2⟩, ⟨by have := hcc.out; omega⟩, ⟨W1⟩, ⟨W2⟩, ⟨fun j => ?_⟩, set4_below B1 (Nat.le_refl _) _ _ _ _⟩
        · rw [show o + (i + 1) * 4 = o + i * 4 + 4 by omega]
          exact R'.out
        · have := hnth.out (j + 1)
          rw [show i + 1 + j = i + (j + 1) by omega]
          exact this
theorem to_all : ∀ t : F, PC t ∧ AllC t
  | .nil => ⟨to_step .nil trivial, trivial⟩
  | .cons k a b t r => by
    have g : AllC (.cons k a b t r) := ⟨(to_all t).1, (to_all r).2⟩
    exact ⟨to_step _ g, g⟩
theorem toExpr_any (k a c : Int) (t : F) (v : Value) (w : World) (hk : Kids w t v) (hc : t.cnt ≤ 1048576) :
    Calls Try.prog 14 #[exV k a c v] w fun e w' => ∃ u, e = .returned (exV k a c u) ∧ KidsG w.heap.size w' t u ∧ Below w.heap.size w w' :=
  to_one k a c t v w (to_all t).1 hk hc
end ER
end Go.Proofs.Ytlkompbigpbefab
