/-
  What may be reckoned, drawn: what the specification's DrawExprOk returns; DrawExprSpan, DrawExprText, DrawExprRat.
-/
import Derived.Test.YtlkompbigpbefabDrawExpr7
import Derived.Test.YtlkompbigpbefabLoose2
namespace Go.Proofs.Ytlkompbigpbefab
open Go.RowKit Go.Sort Go.Joins
set_option linter.unusedVariables false
set_option maxRecDepth 8000
namespace DX
open DK DW SK EM ER
/-- A world of the region in which a node is laid around the tree: it lies in block 'eb'. -/
structure Wb (k zb eb M : Nat) (kk a c : Int) (t : F) (u : Value) (we : World) (f : Nat) where
  w : World
  ob : Ob w eb kk a c u
  oz : Ob w zb 0 0 0 (.slice none 0 0)
  kd : KidsS (fun b => k < b ∧ b ≠ eb) w t u
  rd : ∃ q, Rd w k q ∧ q + f ≤ M
  tc : Tch k zb we w
abbrev Cb (k zb eb M : Nat) (kk a c : Int) (t : F) (u : Value) (we : World) : Nat → World → Prop := fun f w' => ∃ q : Wb k zb eb M kk a c t u we f, w' = q.w
theorem Cb.mono {k zb eb M : Nat} {kk a c : Int} {t : F} {u : Value} {we : World} : ∀ f w, Cb k zb eb M kk a c t u we (f + 1) w → Cb k zb eb M kk a c t u we f w := by
  rintro f w ⟨q, rfl⟩
  exact ⟨⟨q.w, q.ob, q.oz, q.kd, let ⟨x, h1, h2⟩ := q.rd; ⟨x, h1, by omega⟩, q.tc⟩, rfl⟩
def Q4 (k eb : Nat) (kk a c : Int) (t : F) (v : Value) (w : World) : Prop := ∃ (b : Nat) (x : Int), v = .slice (some ⟨b, 0, none⟩) 2 2 ∧ KidsS (fun b => k < b ∧ b ≠ eb) w (.cons kk a c t (.cons 1 0 x .nil .nil)) v
def ndB (k eb : Nat) (kk a c : Int) (t : F) : Nat → Option (Act → Value → World → Prop) := fun i =>
  if i = 2 then some (fun _ v _ => ∃ x : Int, v = .int .i64 x) else if i = 4 then some (fun _ v w => Q4 k eb kk a c t v w) else none
theorem ndB_local {ops : Array Oper} {k eb : Nat} {kk a c : Int} {t : F} : LQ.Local ops (ndB k eb kk a c t) := by
  intro j Φ oj hn _ a dst v _
  unfold ndB at hn
  split at hn
  · cases hn; rfl
  · split at hn
    · cases hn; rfl
    · cases hn
theorem ndB_keeps {k eb : Nat} {kk a c : Int} {t : F} {w w' : World} (K : KeepS (fun b => k < b ∧ b ≠ eb) w w') : LQ.Keeps (ndB k eb kk a c t) w w' := by
  intro i Φ ac u hn hu
  unfold ndB at hn
  split at hn
  · cases hn; exact hu
  · split at hn
    · cases hn
      obtain ⟨b, x, e, h⟩ := hu
      exact ⟨b, x, e, h.turn K fun _ h _ => h⟩
    · cases hn
theorem pick_b {k zb eb M : Nat} {kk a c : Int} {t : F} {u : Value} {we : World} {f : Nat} (q : Wb k zb eb M kk a c t u we (f + 1)) (hk : zb < k) (hz : k < eb) (hM : M ≤ 100000000) :
    Calls Try.prog 18 #[.pointer (some ⟨k, 0, none⟩), .int .i64 3] q.w fun e w' => ∃ v, e = .returned v ∧ Cb k zb eb M kk a c t u we f w' ∧ (∃ x : Int, v = .int .i64 x) ∧ LQ.Keeps (ndB k eb kk a c t) q.w w' := by
  obtain ⟨p, R, hp⟩ := q.rd
  have lz := ob_lt q.oz
  refine (pick_any q.w k p 3 (by omega) R).mono ?_
  rintro e w' ⟨v, rfl, _, _, R', T'⟩
  have K : KeepS (fun b => k < b ∧ b ≠ eb) q.w w' := fun b hb hl => T'.block b hl (by have := hb.1; omega)
  exact ⟨_, rfl, ⟨⟨w', ob_tch q.ob T' (by omega), ob_tch q.oz T' (by omega), q.kd.turn K fun _ h _ => h, ⟨p + 1, R', by omega⟩, q.tc.trans (T'.mono (by omega))⟩, rfl⟩, ⟨v, rfl⟩, ndB_keeps K⟩
theorem build_b {k zb eb M : Nat} {kk a c : Int} {t : F} {pu : Option Addr} {nu cu : Nat} {we : World} {f : Nat} (hz : k < eb) (q : Wb k zb eb M kk a c t (.slice pu nu cu) we (f + 1)) (x : Int) (ty : TypeId) :
    Cb k zb eb M kk a c t (.slice pu nu cu) we f (q.w.alloc (.cells #[.int .i64 kk, .int .i64 a, .int .i64 c, .slice pu nu cu, .int .i64 1, .int .i64 0, .int .i64 x, .slice none 0 0] ty)) ∧
    Q4 k eb kk a c t (.slice (some ⟨q.w.heap.size, 0, none⟩) 2 2) (q.w.alloc (.cells #[.int .i64 kk, .int .i64 a, .int .i64 c, .slice pu nu cu, .int .i64 1, .int .i64 0, .int .i64 x, .slice none 0 0] ty)) ∧
    LQ.Keeps (ndB k eb kk a c t) q.w (q.w.alloc (.cells #[.int .i64 kk, .int .i64 a, .int .i64 c, .slice pu nu cu, .int .i64 1, .int .i64 0, .int .i64 x, .slice none 0 0] ty)) := by
  have Bn := below_new q.w (.cells #[.int .i64 kk, .int .i64 a, .int .i64 c, .slice pu nu cu, .int .i64 1, .int .i64 0, .int .i64 x, .slice none 0 0] ty)
  have K : KeepS (fun b => k < b ∧ b ≠ eb) q.w (q.w.alloc (.cells #[.int .i64 kk, .int .i64 a, .int .i64 c, .slice pu nu cu, .int .i64 1, .int .i64 0, .int .i64 x, .slice none 0 0] ty)) := fun b _ hl => Bn.block b hl
  have lz := ob_lt q.oz
  have le := ob_lt q.ob
  obtain ⟨p, R, hp⟩ := q.rd
  have kd := q.kd.turn K fun _ h _ => h
  refine ⟨⟨⟨_, q.ob.kept Bn, q.oz.kept Bn, kd, ⟨p, R.kept Bn, by omega⟩, q.tc.trans (Tch.ofBelow (Bn.mono (by omega)))⟩, rfl⟩, ⟨_, x, rfl, ?_⟩, ndB_keeps K⟩
  obtain ⟨p', n, cap, e, h5, h6⟩ := kd
  cases e
  exact ⟨_, _, _, rfl, rfl, .inr ⟨_, 0, rfl, ⟨by omega, by omega⟩, ⟨by simp [go_sem], by simp [go_sem], by simp [go_sem]⟩, ⟨pu, nu, cu, by simp [go_sem], h5, h6⟩, ⟨by simp [go_sem], by simp [go_sem], by simp [go_sem]⟩, ⟨none, 0, 0, by simp [go_sem], rfl, .inl rfl⟩, trivial⟩⟩
/-- What is laid around it is laid into its place. -/
theorem laid_b {k zb eb M : Nat} {kk a c : Int} {t : F} {u v : Value} {we : World} (q : Wb k zb eb M kk a c t u we 0) (hk : zb < k) (hz : k < eb) (h : Q4 k eb kk a c t v q.w) :
    ∃ (x : Int), Ob (set4 q.w eb 0 (.int .i64 7) (.int .i64 0) (.int .i64 0) v) eb 7 0 0 v ∧ Ob (set4 q.w eb 0 (.int .i64 7) (.int .i64 0) (.int .i64 0) v) zb 0 0 0 (.slice none 0 0) ∧ KidsS (fun b => k < b ∧ b ≠ eb) (set4 q.w eb 0 (.int .i64 7) (.int .i64 0) (.int .i64 0) v) (.cons kk a c t (.cons 1 0 x .nil .nil)) v ∧
      (∃ p, Rd (set4 q.w eb 0 (.int .i64 7) (.int .i64 0) (.int .i64 0) v) k p ∧ p ≤ M) ∧ Tch k zb we (set4 q.w eb 0 (.int .i64 7) (.int .i64 0) (.int .i64 0) v) := by
  obtain ⟨b, x, e, h⟩ := h
  obtain ⟨p, R, hp⟩ := q.rd
  have oth : ∀ b, b ≠ eb → (set4 q.w eb 0 (.int .i64 7) (.int .i64 0) (.int .i64 0) v).heap[b]? = q.w.heap[b]? := fun b hb => set4_other q.w _ _ _ _ hb
  obtain ⟨⟨e0, e1, e2, e3⟩, ef⟩ := q.ob
  refine ⟨x, ⟨⟨?_, ?_, ?_, ?_⟩, fun o => ?_⟩, ob_keep q.oz (oth _ (by omega)), h.turn (fun b hb _ => oth b hb.2) (fun _ h _ => h), ⟨p, rd_moved R (oth _ (by omega)) (fun j hj => oth _ (by omega)), by omega⟩, q.tc.trans (Tch.ofBelow (set4_below (Below.refl _ _) (by omega) _ _ _ _))⟩
  all_goals simp [set4, go_sem, *]
/-- What is answered by a draw: a tree in new blocks. -/
def Drawn (w w' : World) (e : Ending) : Prop := ∃ (kk a c : Int) (t : F) (u : Value), e = .returned (exV kk a c u) ∧ KidsS (fun b => w.heap.size < b) w' t u ∧ Below w.heap.size w w'
theorem pick_s {k zb eb M : Nat} {kk a c : Int} {t : F} {u : Value} {we : World} (S : Wb k zb eb M kk a c t u we 0) (hk : zb < k) (hz : k < eb) (hM : M ≤ 100000000) (n : Int) (hn : 1 ≤ n) :
    Calls Try.prog 18 #[.pointer (some ⟨k, 0, none⟩), .int .i64 n] S.w fun e w' => ∃ v, e = .returned (.int .i64 v) ∧ 0 ≤ v ∧ v < n ∧ ∃ S' : Wb k zb eb (M + 1) kk a c t u we 0, w' = S'.w := by
  obtain ⟨p, R, hp⟩ := S.rd
  have lz := ob_lt S.oz
  refine (pick_any S.w k p n (by omega) R).mono ?_
  rintro e w' ⟨v, rfl, v0, v1, R', T'⟩
  have K : KeepS (fun b => k < b ∧ b ≠ eb) S.w w' := fun b hb hl => T'.block b hl (by have := hb.1; omega)
  exact ⟨v, rfl, v0, v1 hn, ⟨w', ob_tch S.ob T' (by omega), ob_tch S.oz T' (by omega), S.kd.turn K fun _ h _ => h, ⟨p + 1, R', by omega⟩, S.tc.trans (T'.mono (by omega))⟩, rfl⟩
theorem drew_b {k zb eb M M' f : Nat} {kk a c : Int} {t : F} {u : Value} {we : World} (S : Wb k zb eb M kk a c t u we 0) (hM : M + f ≤ M') : Cb k zb eb M' kk a c t u we f { S.w with drawn := S.w.drawn + 1 } := by
  obtain ⟨p, R, hp⟩ := S.rd
  exact ⟨⟨S.w.drew, ob_keep S.ob rfl, ob_keep S.oz rfl, S.kd.turn (fun _ _ _ => rfl) fun _ h _ => h, ⟨p, R.drew, by omega⟩, S.tc.drew⟩, rfl⟩
/-- The answer is laid into its place. -/
theorem drawn_done {k zb eb M : Nat} {kk a c : Int} {t : F} {u : Value} {we : World} (S : Wb k zb eb M kk a c t u we 0) (hk : zb < k) (hz : zb = we.heap.size) : Drawn we (set4 S.w zb 0 (.int .i64 kk) (.int .i64 a) (.int .i64 c) u) (.returned (exV kk a c u)) := by
  have K : KeepS (fun b => k < b ∧ b ≠ eb) S.w (set4 S.w zb 0 (.int .i64 kk) (.int .i64 a) (.int .i64 c) u) := fun b hb _ => set4_other S.w _ _ _ _ (by have := hb.1; omega)
  subst hz
  exact ⟨kk, a, c, t, u, rfl, S.kd.turn K fun b hb _ => (by have := hb.1; show we.heap.size < b; omega), set4_below (S.tc.toBelow (Nat.le_refl _) (by omega)) (Nat.le_refl _) _ _ _ _⟩
set_option maxHeartbeats 8000000 in
theorem drawExprOk_any (w : World) (a : Option Addr) (len cap : Nat) (h : Src w a len cap) :
    Calls Try.prog 10 #[.slice a len cap] w fun e w' => Drawn w w' e := by
  have X := Ob.new w 0 0 0 (.slice none 0 0) 25
  have B := below_new w (.cells #[.int .i64 0, .int .i64 0, .int .i64 0, .slice none 0 0] 25)
  have H := h.kept B
  have sz := size_new w (.cells #[.int .i64 0, .int .i64 0, .int .i64 0, .slice none 0 0] 25)
  go_enter Try.func10, Try.ntmps10
  go_wp2_with fail
  generalize (w.alloc (.cells #[.int .i64 0, .int .i64 0, .int .i64 0, .slice none 0 0] 25)) = w1 at *
  refine (l6Open_any w1 a len cap H).mono ?_
  rintro e w2 ⟨rfl, R, Bx⟩
  replace X := X.kept Bx
  replace B := below1 B Bx
  have hk := R.lt
  obtain ⟨k, ek⟩ : ∃ k, k = w1.heap.size := ⟨_, rfl⟩
  rw [← ek] at R hk sz ⊢
  have sk : w.heap.size < k := by omega
  clear Bx ek H sz
  go_wp2_with fail
  refine (l71Bent_any false w2 k 0 (by omega) R).mono ?_
  rintro e w3 ⟨kk, a1, c1, t, u, q, rfl, K, tl, R', hq, T'⟩
  have T := (Tch.ofBelow (k := k) B).trans (T'.mono B.size)
  replace X := ob_tch X T' (by omega)
  have sz3 := T'.size
  have K2 : KidsS (fun b => k < b ∧ b ≠ w3.heap.size) w3 t u := K.turn (fun _ _ _ => rfl) (fun b hb hl => ⟨by have : w2.heap.size < b := hb; omega, by omega⟩)
  obtain ⟨pu, _, cu, rfl, rfl, _⟩ := K.kids
  have Bn := below_new w3 (.cells #[.int .i64 kk, .int .i64 a1, .int .i64 c1, .slice pu t.len cu] 25)
  obtain ⟨M, M0, M1⟩ : ∃ M, 80000005 ≤ M ∧ M ≤ 90000000 := ⟨80000005, Nat.le_refl _, by omega⟩
  have hqM : q + 0 ≤ M := by omega
  obtain ⟨eb, heb, nu, hnu, S, hS⟩ : ∃ eb, eb = w3.heap.size ∧ ∃ nu, nu = t.len ∧ ∃ S : Wb k w.heap.size eb M kk a1 c1 t (.slice pu nu cu) w 0, S.w = w3.alloc (.cells #[.int .i64 kk, .int .i64 a1, .int .i64 c1, .slice pu t.len cu] 25) := ⟨_, rfl, _, rfl, ⟨w3.alloc (.cells #[.int .i64 kk, .int .i64 a1, .int .i64 c1, .slice pu t.len cu] 25), Ob.new w3 kk a1 c1 _ 25, X.kept Bn, K2.turn (fun b _ hl => Bn.block b hl) (fun _ h _ => h), ⟨q, R'.kept Bn, hqM⟩, T.trans (Tch.ofBelow (Bn.mono T.size))⟩, rfl⟩
  replace hnu := Hide.mk hnu
  have ke : k < eb := by omega
  have ne1 : w.heap.size < eb := by omega
  replace heb := Hide.mk heb
  clear R' T' T X K K2 Bn hqM hq tl B R hk sz3
  go_wp2_with fail
  rw [← hS, ← heb.out]
  clear hS heb hnu
  refine (pick_s S sk ke (by omega) 3 (by omega)).mono ?_
  clear S
  rintro e w5 ⟨v, rfl, v0, v1, S, rfl⟩
  by_cases hv : v = 0
  · subst hv
    go_wp2_with fail
    go_loopw [5] (fun s5 wr => ∃ (j : Nat) (kk a1 c1 : Int) (t : F) (pu : Option Addr) (nu cu : Nat) (S : Wb k w.heap.size eb (M + 1 + j * 10) kk a1 c1 t (.slice pu nu cu) w 0), s5 = .int .i64 j ∧ j ≤ 4 ∧ wr = S.w) (fun s5 _ => match s5 with | .int _ i => (4 - i.toNat) | _ => 0)
    case atStart => exact ⟨0, kk, a1, c1, t, pu, nu, cu, ⟨S.w, S.ob, S.oz, S.kd, S.rd, S.tc⟩, rfl, by omega, rfl⟩
    case round =>
      clear S
      obtain ⟨j, kk, a1, c1, t, pu, nu, cu, S, rfl, hj, rfl⟩ := hrel
      by_cases hj4 : j = 4
      · subst hj4
        have nz := Nat.ne_of_lt ne1
        have ⟨⟨x0, x1, x2, x3⟩, xf⟩ := S.oz
        have ⟨⟨e0, e1, e2, e3⟩, ef⟩ := S.ob
        go_wp2
        refine bodyPost_ret (v := exV kk a1 c1 (.slice pu nu cu)) (by simp [results, Try.results10, go_sem, *]) rfl ?_
        exact drawn_done S sk rfl
      have d4 : (j : Int) < 4 := by omega
      go_wp2_with fail
      have o0 : ∀ f (q : Wb k w.heap.size eb (M + 1 + j * 10 + 6) kk a1 c1 t (.slice pu nu cu) w f), q.w.cell? ⟨eb, 0, none⟩ = some (.int .i64 kk) := fun f q => q.ob.e.c0
      have o1 : ∀ f (q : Wb k w.heap.size eb (M + 1 + j * 10 + 6) kk a1 c1 t (.slice pu nu cu) w f), q.w.cell? ⟨eb, 1, none⟩ = some (.int .i64 a1) := fun f q => q.ob.e.c1
      have o2 : ∀ f (q : Wb k w.heap.size eb (M + 1 + j * 10 + 6) kk a1 c1 t (.slice pu nu cu) w f), q.w.cell? ⟨eb, 2, none⟩ = some (.int .i64 c1) := fun f q => q.ob.e.c2
      have o3 : ∀ f (q : Wb k w.heap.size eb (M + 1 + j * 10 + 6) kk a1 c1 t (.slice pu nu cu) w f), q.w.cell? ⟨eb, 3, none⟩ = some (.slice pu nu cu) := fun f q => q.ob.e.c3
      refine LQ.region (Cb k w.heap.size eb (M + 1 + j * 10 + 6) kk a1 c1 t (.slice pu nu cu) w) (ndB k eb kk a1 c1 t) 6 [0, 1, 2, 3, 4, 5] ndB_local (by kernel_rfl) (by kernel_rfl) Cb.mono (drew_b S (Nat.le_refl _)) ?_
      iterate 2 (refine LQ.stepD rfl rfl (fun N hN => ?_); go_simp; apply Exists.intro; refine ⟨fun _ _ _ => ?_, hN _ _ ?_⟩; exact And.intro rfl rfl; clear hN N)
      refine LQ.stepN rfl rfl (fun N hN => ?_)
      go_simp
      refine ⟨fun f q _ => And.intro rfl (pick_b q sk ke (by omega)), ?_⟩
      intro x
      refine hN _ _ ?_
      clear hN N
      refine LQ.stepD rfl rfl (fun N hN => ?_)
      go_simp
      apply Exists.intro
      refine ⟨fun _ _ _ => ?_, hN _ _ ?_⟩
      exact And.intro rfl rfl
      clear hN N
      refine LQ.stepN rfl rfl (fun N hN => ?_)
      go_simp
      refine ⟨fun f q _ => build_b ke q x 25, ?_⟩
      rintro u wn ⟨b4, x4, rfl, h4⟩
      refine hN _ _ ?_
      clear hN N h4 wn x4
      refine LQ.stepD rfl rfl (fun N hN => ?_)
      go_simp
      apply Exists.intro
      refine ⟨fun _ _ _ => ?_, hN _ _ ?_⟩
      exact And.intro rfl rfl
      clear hN N
      refine LQ.lexEnd ?_
      rintro w7 ⟨q, rfl⟩ kn
      have h4 := (kn _ (List.mem_cons_self ..)).2
      clear kn o0 o1 o2 o3
      obtain ⟨x5, O1, O2, K5, R5, T5⟩ := laid_b q sk ke h4
      have ⟨⟨y0, y1, y2, y3⟩, yf⟩ := q.ob
      simp only [List.drop]
      have fin : ∃ S' : Wb k w.heap.size eb (M + 1 + (j + 1) * 10) 7 0 0 (.cons kk a1 c1 t (.cons 1 0 x5 .nil .nil)) (.slice (some ⟨b4, 0, none⟩) 2 2) w 0, S'.w = set4 q.w eb 0 (.int .i64 7) (.int .i64 0) (.int .i64 0) (.slice (some ⟨b4, 0, none⟩) 2 2) :=
        ⟨⟨_, O1, O2, K5, let ⟨p, R, h⟩ := R5; ⟨p, R, by omega⟩, T5⟩, rfl⟩
      obtain ⟨S', hS'⟩ := fin
      replace hS' := Hide.mk hS'
      clear O1 O2 K5 R5 T5 h4
      go_wp2
      go_round
      case rel => exact ⟨j + 1, 7, 0, 0, _, _, _, _, S', by rw [show ((j + 1 : Nat) : Int) = (j : Int) + 1 by omega], by omega, hS'.out.symm⟩
      case measure => simp; omega
  · have hv' : (v == 0) = false := beq_false_of_ne hv
    have nz := Nat.ne_of_lt ne1
    have ⟨⟨x0, x1, x2, x3⟩, xf⟩ := S.oz
    have ⟨⟨e0, e1, e2, e3⟩, ef⟩ := S.ob
    go_wp2
    refine bodyPost_ret (v := exV kk a1 c1 (.slice pu nu cu)) (by simp [results, Try.results10, go_sem, *]) rfl ?_
    exact drawn_done S sk rfl
end DX
end Go.Proofs.Ytlkompbigpbefab
