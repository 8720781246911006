/-
  The draw of a tree: what the specification's l71Expr returns: something with Kids.
-/
import Derived.Test.YtlkompbigpbefabDrawExpr2
namespace Go.Proofs.Ytlkompbigpbefab
open Go.RowKit Go.Sort Go.Joins
set_option linter.unusedVariables false
set_option maxRecDepth 8000
namespace DX
open DK DW SK EM ER
theorem kinds (w : World) (t : TypeId) (z : Int) (z0 : 0 ≤ z) (z1 : z < 7) :
    ∃ kd : Int, (w.alloc (.cells #[.int .i64 5, .int .i64 6, .int .i64 7, .int .i64 7, .int .i64 8, .int .i64 2, .int .i64 3] t)).cell? ⟨w.heap.size, z.toNat, none⟩ = some (.int .i64 kd) ∧ (kd = 2 ∨ kd = 3 ∨ kd = 5 ∨ kd = 6 ∨ kd = 7 ∨ kd = 8) := by
  rcases (show z = 0 ∨ z = 1 ∨ z = 2 ∨ z = 3 ∨ z = 4 ∨ z = 5 ∨ z = 6 by omega) with rfl | rfl | rfl | rfl | rfl | rfl | rfl
  · exact ⟨5, by simp [go_sem], by omega⟩
  · exact ⟨6, by simp [go_sem], by omega⟩
  · exact ⟨7, by simp [go_sem], by omega⟩
  · exact ⟨7, by simp [go_sem], by omega⟩
  · exact ⟨8, by simp [go_sem], by omega⟩
  · exact ⟨2, by simp [go_sem], by omega⟩
  · exact ⟨3, by simp [go_sem], by omega⟩
set_option maxHeartbeats 8000000 in
theorem more_false (deep : Int) (w : World) (k p : Nat) (hd : 2 ≤ deep) (hd0 : deep ≤ 1000) (B : Nat) (hp : p + 22 * B + 100 ≤ 800000000) (c : ∀ (w' : World) (p' : Nat), p' + B ≤ 800000000 → Rd w' k p' → Calls Try.prog 26 #[.pointer (some ⟨k, 0, none⟩), .int .i64 (deep - 1), .bool false] w' fun e w'' => ∃ (kk a c : Int) (t : F) (u : Value) (q : Nat), e = .returned (exV kk a c u) ∧ OwnX w'.heap.size w'' u t ∧ t.len ≤ 2 ∧ Rd w'' k q ∧ q ≤ p' + B ∧ Tch k w'.heap.size w' w'') (h : Rd w k p) :
    Calls Try.prog 26 #[.pointer (some ⟨k, 0, none⟩), .int .i64 deep, .bool false] w fun e w' => ∃ (kk a c : Int) (t : F) (u : Value) (q : Nat), e = .returned (exV kk a c u) ∧ OwnX w.heap.size w' u t ∧ t.len ≤ 2 ∧ Rd w' k q ∧ q ≤ p + 22 * B + 60 ∧ Tch k w.heap.size w w' := by
  have hk := h.lt
  have X := Ob.new w 0 0 0 (.slice none 0 0) 25
  have R := h.alloc (.cells #[.int .i64 0, .int .i64 0, .int .i64 0, .slice none 0 0] 25)
  have T := (Tch.refl k w.heap.size w).alloc (Nat.le_refl _) (.cells #[.int .i64 0, .int .i64 0, .int .i64 0, .slice none 0 0] 25)
  go_enter Try.func26, Try.ntmps26
  go_wp2_with fail
  generalize (w.alloc (.cells #[.int .i64 0, .int .i64 0, .int .i64 0, .slice none 0 0] 25)) = w1 at *
  refine (pick_any _ k _ _ (by omega) R).mono ?_
  rintro e w2 ⟨s, rfl, s0, s1, R', T'⟩
  replace X := ob_tch X T' (by omega)
  replace R := R'
  replace T := T.trans (T'.mono T.size)
  clear R' T'
  replace s1 := s1 (by omega)
  by_cases zs : s = 0
  · subst zs
    go_wp2_with fail
    refine (pick_any _ k _ _ (by omega) R).mono ?_
    rintro e w3 ⟨s, rfl, s0, s1, R', T'⟩
    replace X := ob_tch X T' (by omega)
    replace R := R'
    replace T := T.trans (T'.mono T.size)
    clear R' T'
    replace s1 := s1 (by omega)
    by_cases z : s = 0
    · subst z
      go_wp2_with fail
      refine (l71Big_any _ _ _ _ (by omega) R (by omega) (by omega)).mono ?_
      rintro e w4 ⟨v, p2, rfl, v0, v1, q2, R', T'⟩
      replace X := ob_tch X T' (by omega)
      replace R := R'
      replace T := T.trans (T'.mono T.size)
      clear R' T'
      obtain ⟨⟨x0, x1, x2, x3⟩, xf⟩ := X
      go_wp2
      refine bodyPost_ret (v := exV (4) (v) (0) (.slice none 0 0)) (by simp [results, Try.results26, go_sem, *]) rfl ?_
      exact done (t := .nil) R T hk (by omega) (Nat.zero_le _) OwnX.nil
    · have e0 : (s == 0) = false := by simp; omega
      go_wp2_with fail
      refine (pick_any _ k _ _ (by omega) R).mono ?_
      rintro e w4 ⟨b, rfl, b0, b1, R', T'⟩
      replace X := ob_tch X T' (by omega)
      replace R := R'
      replace T := T.trans (T'.mono T.size)
      clear R' T'
      replace b1 := b1 (by omega)
      go_wp2_with fail
      refine (pick_any _ k _ _ (by omega) R).mono ?_
      rintro e w5 ⟨d, rfl, d0, d1, R', T'⟩
      replace X := ob_tch X T' (by omega)
      replace R := R'
      replace T := T.trans (T'.mono T.size)
      clear R' T'
      replace d1 := d1 (by omega)
      obtain ⟨⟨x0, x1, x2, x3⟩, xf⟩ := X
      go_wp2
      refine bodyPost_ret (v := exV (1) (d - (1 + b)) (1 + b) (.slice none 0 0)) (by simp [results, Try.results26, go_sem, *]) rfl ?_
      exact done (t := .nil) R T hk (by omega) (Nat.zero_le _) OwnX.nil
  · have es : (s == 0) = false := by simp; omega
    have hk0 : w.heap.size ≠ k := by omega
    go_wp2_with fail
    have AC := kinds w2 3
    replace X := X.kept (below_new w2 (.cells #[.int .i64 5, .int .i64 6, .int .i64 7, .int .i64 7, .int .i64 8, .int .i64 2, .int .i64 3] 3))
    replace R := R.alloc (.cells #[.int .i64 5, .int .i64 6, .int .i64 7, .int .i64 7, .int .i64 8, .int .i64 2, .int .i64 3] 3)
    have sz2 : k < w2.heap.size := by have := T.size; omega
    replace T := T.alloc T.size (.cells #[.int .i64 5, .int .i64 6, .int .i64 7, .int .i64 7, .int .i64 8, .int .i64 2, .int .i64 3] 3)
    have sz3 : w2.heap.size < (w2.alloc (.cells #[.int .i64 5, .int .i64 6, .int .i64 7, .int .i64 7, .int .i64 8, .int .i64 2, .int .i64 3] 3)).heap.size := by rw [size_new]; omega
    obtain ⟨ab, hab⟩ : ∃ ab, ab = w2.heap.size := ⟨_, rfl⟩
    rw [← hab] at sz2 sz3 AC ⊢
    generalize (w2.alloc (.cells #[.int .i64 5, .int .i64 6, .int .i64 7, .int .i64 7, .int .i64 8, .int .i64 2, .int .i64 3] 3)) = wa at *
    clear hab
    refine (pick_any _ k _ _ (by omega) R).mono ?_
    rintro e w3 ⟨z, rfl, z0, z1, R', T'⟩
    obtain ⟨kd, hc, hkd⟩ := AC z z0 (z1 (by omega))
    replace hc := (T'.cell sz3 (by omega)).trans hc
    replace X := ob_tch X T' (by omega)
    replace R := R'
    replace T := T.trans (T'.mono T.size)
    replace z1 := z1 (by omega)
    clear R' T' AC
    go_wp2_with fail
    have sz4 : w.heap.size < w3.heap.size := ob_lt X
    have OB := Ob.new w3 kd 0 0 (.slice none 0 0) 25
    replace X := X.kept (below_new w3 (.cells #[.int .i64 kd, .int .i64 0, .int .i64 0, .slice none 0 0] 25))
    replace R := R.alloc (.cells #[.int .i64 kd, .int .i64 0, .int .i64 0, .slice none 0 0] 25)
    replace T := T.alloc T.size (.cells #[.int .i64 kd, .int .i64 0, .int .i64 0, .slice none 0 0] 25)
    have sz5 : (w3.alloc (.cells #[.int .i64 kd, .int .i64 0, .int .i64 0, .slice none 0 0] 25)).heap.size = w3.heap.size + 1 := size_new _ _
    obtain ⟨eb, heb⟩ : ∃ eb, eb = w3.heap.size := ⟨_, rfl⟩
    rw [← heb] at OB sz4 sz5 ⊢
    generalize (w3.alloc (.cells #[.int .i64 kd, .int .i64 0, .int .i64 0, .slice none 0 0] 25)) = wl at *
    clear heb hc z0 z1 sz2 sz3
    have OW := OwnX.nil (base := eb + 1) (w := wl)
    have TL := Tch.refl k eb wl
    have hke : k < eb := by omega
    have eK : eb ≠ k := by omega
    have zE : w.heap.size ≠ eb := by omega
    clear sz5
    rcases (show (kd = 2 ∨ kd = 3) ∨ (kd = 5 ∨ kd = 6 ∨ kd = 7 ∨ kd = 8) by omega) with hN | hN
    · have K31 : ∀ w, Calls Try.prog 38 #[.int .i64 kd] w fun e w' => e = .returned (.int .i64 1) ∧ Below w.heap.size w w' := fun w => by
        have := l31Kids_any kd w
        rwa [show kidsN kd = 1 by rcases hN with rfl | rfl <;> rfl] at this
      replace K31 := Hide.mk K31
      replace hN := Hide.mk hN
      refine wp_loop_rounds 2 ?_
      rw [rounds_succ]
      go_wp2_with fail
      refine (K31.out _).mono ?_
      rintro e wlk ⟨rfl, Bx⟩
      replace X := X.kept Bx
      have OB0 := OB
      replace OB := OB.kept Bx
      replace OW := OW.keep (fun b _ hl => Bx.block b hl)
      replace R := R.kept Bx
      replace TL := TL.trans (Tch.ofBelow (Bx.mono (Nat.le_of_lt (ob_lt OB0))))
      clear Bx
      go_wp2_with fail
      clear OB0
      have hbs : eb + 1 ≤ wlk.heap.size := ob_lt OB
      have h3 : (Value.slice none 0 0).ownBlock = none ∨ ∃ g, (Value.slice none 0 0).ownBlock = some g ∧ g < wlk.heap.size := .inl rfl
      have o3 : ∀ f (q : Wx k ((p + 2) + B * 9) B w.heap.size eb kd (Value.slice none 0 0) (F.nil) wl wlk f), q.w.cell? ⟨eb, 3, none⟩ = some (Value.slice none 0 0) := fun f q => q.ob.e.c3
      have wd : IntKind.i64.wrap (deep - 1) = deep - 1 := SK.wrap_id (by omega) (by omega)
      refine LZ.region (Cx k ((p + 2) + B * 9) B w.heap.size eb kd (Value.slice none 0 0) (F.nil) wl wlk) (ndE (eb + 1) (Value.slice none 0 0) 0) 9 [0, 1, 2, 3, 4, 5, 6, 7, 8] ndE_local (by kernel_rfl) (by kernel_rfl) Cx.mono ⟨⟨wlk.drew, ⟨(p + 2), R.drew, Nat.le_refl _⟩, TL.drew, Nat.le_refl _, ob_keep OB rfl, ob_keep X rfl, OW.keep (fun _ _ _ => rfl)⟩, rfl⟩ ?_
      iterate 6 (refine LZ.stepD rfl rfl (fun N hN => ?_); go_simp; apply Exists.intro; refine ⟨fun _ _ _ => ?_, hN _ _ ?_⟩; exact And.intro rfl rfl; clear hN N)
      refine LZ.stepN rfl rfl (fun N hN => ?_)
      go_simp
      refine ⟨fun f q _ => And.intro rfl ((call_x q hke hbs eK hk0 h3 fun p' Rp hp' => (c q.w p' (by omega) Rp).mono fun e w' ⟨kk, a, c, t, u, q', h1, h2, _, h4, h5, h6⟩ => ⟨kk, a, c, t, u, q', h1, h2.kids, h4, h5, h6⟩).mono fun e w' ⟨u, h1, h2, h3⟩ => ⟨u, h1, h2, h3, fun x hx => by cases hx⟩), ?_⟩
      rintro u wn ⟨k1, a1, c1, s1, x1, rfl, hx⟩
      refine hN _ _ ?_
      clear hN N hx wn
      refine LZ.stepN rfl rfl (fun N hN => ?_)
      go_simp
      refine ⟨fun f q hk' => ?_, ?_⟩
      · obtain ⟨k2, a2, c2, s2, x2, ex, hx⟩ := (hk' _ (List.mem_cons_self ..)).2
        cases ex
        obtain ⟨A1, A2, A3⟩ := alloc_x q hke hbs h3 _ _ _ hx 25 _ rfl
        exact ⟨A1, A2, fun y hy => by simp only [List.mem_cons, List.not_mem_nil, or_false] at hy; subst hy; exact P6.keep A3⟩
      rintro u wn ⟨b4, cp4, k4, a4, c4, s4, x4, rfl, ho4, he4, hx4⟩
      refine hN _ _ ?_
      clear hN N ho4 he4 hx4 wn k4 a4 c4 s4 x4
      refine LZ.stepN rfl rfl (fun N hN => ?_)
      rw [if_pos (by rfl)]
      refine ⟨fun f wx hC hk' => ?_, ?_⟩
      · obtain ⟨q, rfl⟩ := hC
        obtain ⟨b5, cp5, k5, a5, c5, s5, x5, ex, ho5, he5, hx5⟩ := (hk' _ (List.mem_cons_self ..)).2
        cases ex
        obtain ⟨v', w', hr, A1, A2, A3⟩ := app_x (cp := cp4) q hke hbs (fun e => by cases e) (fun e => by cases e) (Nat.zero_le _) ho5 he5 hx5 23
        refine nd_of (run_app rfl rfl rfl hr) ⟨A1, A2, fun y hy => ?_⟩
        simp only [List.mem_cons, List.not_mem_nil, or_false] at hy
        rcases hy with rfl | rfl
        · exact P7.keep A3
        · exact P6.keep A3
      rintro u ⟨wn, h8⟩
      refine hN _ _ ?_
      clear hN N h8 wn
      refine LZ.lexEnd ?_
      rintro w7 ⟨q, rfl⟩ kn
      obtain ⟨s0', hs8, hl0⟩ := (kn _ (List.mem_cons_self ..)).2
      clear kn
      obtain ⟨g0, cap0, rfl, gb0, gl⟩ := form_x hs8 hl0
      obtain ⟨p0, hp0, R7, T7, OB7, X7, OW7⟩ := stored_x q hke zE hs8
      have ⟨⟨o0, o1, o2, o3'⟩, of⟩ := q.ob
      simp only [List.drop]
      go_wp2_with fail
      clear o0 o1 o2 o3' of o3 wd h3 hbs X OB OW R TL hs8
      have OB := OB7
      have X := X7
      have OW := OW7
      have R := R7
      have TL := T7
      clear OB7 X7 OW7 R7 T7
      have gl0 : g0 < (q.w.setCell ⟨eb, 3, none⟩ (.slice (some ⟨g0, 0, none⟩) (0 + 1) cap0)).heap.size := by rw [World.setCell_size']; exact gl
      generalize (q.w.setCell ⟨eb, 3, none⟩ (.slice (some ⟨g0, 0, none⟩) (0 + 1) cap0)) = wm at *
      clear gl q
      simp only [Nat.zero_add] at OB OW hl0
      replace hl0 := Hide.mk hl0
      rw [rounds_succ]
      go_wp2_with fail
      refine (K31.out _).mono ?_
      rintro e wmk ⟨rfl, Bx⟩
      replace X := X.kept Bx
      have OB0 := OB
      replace OB := OB.kept Bx
      replace OW := OW.keep (fun b _ hl => Bx.block b hl)
      replace R := R.kept Bx
      replace TL := TL.trans (Tch.ofBelow (Bx.mono (Nat.le_of_lt (ob_lt OB0))))
      clear Bx OB0
      have ⟨⟨o0, o1, o2, o3⟩, of⟩ := OB
      have ⟨⟨x0, x1, x2, x3⟩, xf⟩ := X
      have TT := T.trans (TL.mono (Nat.le_of_lt sz4))
      have OZ := OW.weak (show w.heap.size + 1 ≤ eb + 1 by omega)
      go_wp2
      refine bodyPost_ret (v := exV kd 0 0 (.slice (some ⟨g0, 0, none⟩) 1 cap0)) (by simp [results, Try.results26, go_sem, *]) rfl ?_
      exact done R TT hk (by omega) (by have := hl0.out; omega) OZ
    · have K31 : ∀ w, Calls Try.prog 38 #[.int .i64 kd] w fun e w' => e = .returned (.int .i64 2) ∧ Below w.heap.size w w' := fun w => by
        have := l31Kids_any kd w
        rwa [show kidsN kd = 2 by first | rfl | (rcases hN with rfl | rfl | rfl | rfl <;> rfl)] at this
      replace K31 := Hide.mk K31
      replace hN := Hide.mk hN
      refine wp_loop_rounds 3 ?_
      rw [rounds_succ]
      go_wp2_with fail
      refine (K31.out _).mono ?_
      rintro e wlk ⟨rfl, Bx⟩
      replace X := X.kept Bx
      have OB0 := OB
      replace OB := OB.kept Bx
      replace OW := OW.keep (fun b _ hl => Bx.block b hl)
      replace R := R.kept Bx
      replace TL := TL.trans (Tch.ofBelow (Bx.mono (Nat.le_of_lt (ob_lt OB0))))
      clear Bx
      go_wp2_with fail
      clear OB0
      have hbs : eb + 1 ≤ wlk.heap.size := ob_lt OB
      have h3 : (Value.slice none 0 0).ownBlock = none ∨ ∃ g, (Value.slice none 0 0).ownBlock = some g ∧ g < wlk.heap.size := .inl rfl
      have o3 : ∀ f (q : Wx k ((p + 2) + B * 9) B w.heap.size eb kd (Value.slice none 0 0) (F.nil) wl wlk f), q.w.cell? ⟨eb, 3, none⟩ = some (Value.slice none 0 0) := fun f q => q.ob.e.c3
      have wd : IntKind.i64.wrap (deep - 1) = deep - 1 := SK.wrap_id (by omega) (by omega)
      refine LZ.region (Cx k ((p + 2) + B * 9) B w.heap.size eb kd (Value.slice none 0 0) (F.nil) wl wlk) (ndE (eb + 1) (Value.slice none 0 0) 0) 9 [0, 1, 2, 3, 4, 5, 6, 7, 8] ndE_local (by kernel_rfl) (by kernel_rfl) Cx.mono ⟨⟨wlk.drew, ⟨(p + 2), R.drew, Nat.le_refl _⟩, TL.drew, Nat.le_refl _, ob_keep OB rfl, ob_keep X rfl, OW.keep (fun _ _ _ => rfl)⟩, rfl⟩ ?_
      iterate 6 (refine LZ.stepD rfl rfl (fun N hN => ?_); go_simp; apply Exists.intro; refine ⟨fun _ _ _ => ?_, hN _ _ ?_⟩; exact And.intro rfl rfl; clear hN N)
      refine LZ.stepN rfl rfl (fun N hN => ?_)
      go_simp
      refine ⟨fun f q _ => And.intro rfl ((call_x q hke hbs eK hk0 h3 fun p' Rp hp' => (c q.w p' (by omega) Rp).mono fun e w' ⟨kk, a, c, t, u, q', h1, h2, _, h4, h5, h6⟩ => ⟨kk, a, c, t, u, q', h1, h2.kids, h4, h5, h6⟩).mono fun e w' ⟨u, h1, h2, h3⟩ => ⟨u, h1, h2, h3, fun x hx => by cases hx⟩), ?_⟩
      rintro u wn ⟨k1, a1, c1, s1, x1, rfl, hx⟩
      refine hN _ _ ?_
      clear hN N hx wn
      refine LZ.stepN rfl rfl (fun N hN => ?_)
      go_simp
      refine ⟨fun f q hk' => ?_, ?_⟩
      · obtain ⟨k2, a2, c2, s2, x2, ex, hx⟩ := (hk' _ (List.mem_cons_self ..)).2
        cases ex
        obtain ⟨A1, A2, A3⟩ := alloc_x q hke hbs h3 _ _ _ hx 25 _ rfl
        exact ⟨A1, A2, fun y hy => by simp only [List.mem_cons, List.not_mem_nil, or_false] at hy; subst hy; exact P6.keep A3⟩
      rintro u wn ⟨b4, cp4, k4, a4, c4, s4, x4, rfl, ho4, he4, hx4⟩
      refine hN _ _ ?_
      clear hN N ho4 he4 hx4 wn k4 a4 c4 s4 x4
      refine LZ.stepN rfl rfl (fun N hN => ?_)
      rw [if_pos (by rfl)]
      refine ⟨fun f wx hC hk' => ?_, ?_⟩
      · obtain ⟨q, rfl⟩ := hC
        obtain ⟨b5, cp5, k5, a5, c5, s5, x5, ex, ho5, he5, hx5⟩ := (hk' _ (List.mem_cons_self ..)).2
        cases ex
        obtain ⟨v', w', hr, A1, A2, A3⟩ := app_x (cp := cp4) q hke hbs (fun e => by cases e) (fun e => by cases e) (Nat.zero_le _) ho5 he5 hx5 23
        refine nd_of (run_app rfl rfl rfl hr) ⟨A1, A2, fun y hy => ?_⟩
        simp only [List.mem_cons, List.not_mem_nil, or_false] at hy
        rcases hy with rfl | rfl
        · exact P7.keep A3
        · exact P6.keep A3
      rintro u ⟨wn, h8⟩
      refine hN _ _ ?_
      clear hN N h8 wn
      refine LZ.lexEnd ?_
      rintro w7 ⟨q, rfl⟩ kn
      obtain ⟨s0', hs8, hl0⟩ := (kn _ (List.mem_cons_self ..)).2
      clear kn
      obtain ⟨g0, cap0, rfl, gb0, gl⟩ := form_x hs8 hl0
      obtain ⟨p0, hp0, R7, T7, OB7, X7, OW7⟩ := stored_x q hke zE hs8
      have ⟨⟨o0, o1, o2, o3'⟩, of⟩ := q.ob
      simp only [List.drop]
      go_wp2_with fail
      clear o0 o1 o2 o3' of o3 wd h3 hbs X OB OW R TL hs8
      have OB := OB7
      have X := X7
      have OW := OW7
      have R := R7
      have TL := T7
      clear OB7 X7 OW7 R7 T7
      have gl0 : g0 < (q.w.setCell ⟨eb, 3, none⟩ (.slice (some ⟨g0, 0, none⟩) (0 + 1) cap0)).heap.size := by rw [World.setCell_size']; exact gl
      generalize (q.w.setCell ⟨eb, 3, none⟩ (.slice (some ⟨g0, 0, none⟩) (0 + 1) cap0)) = wm at *
      clear gl q
      simp only [Nat.zero_add] at OB OW hl0
      replace hl0 := Hide.mk hl0
      rw [rounds_succ]
      go_wp2_with fail
      refine (K31.out _).mono ?_
      rintro e wmk ⟨rfl, Bx⟩
      replace X := X.kept Bx
      have OB0 := OB
      replace OB := OB.kept Bx
      replace OW := OW.keep (fun b _ hl => Bx.block b hl)
      replace R := R.kept Bx
      replace TL := TL.trans (Tch.ofBelow (Bx.mono (Nat.le_of_lt (ob_lt OB0))))
      replace gl0 := Nat.lt_of_lt_of_le gl0 Bx.size
      clear Bx
      go_wp2_with fail
      clear OB0
      have hbs : eb + 1 ≤ wmk.heap.size := ob_lt OB
      have h3 : (Value.slice (some ⟨g0, 0, none⟩) 1 cap0).ownBlock = none ∨ ∃ g, (Value.slice (some ⟨g0, 0, none⟩) 1 cap0).ownBlock = some g ∧ g < wmk.heap.size := .inr ⟨g0, rfl, gl0⟩
      have o3 : ∀ f (q : Wx k (p0 + B * 9) B w.heap.size eb kd (Value.slice (some ⟨g0, 0, none⟩) 1 cap0) (s0') wl wmk f), q.w.cell? ⟨eb, 3, none⟩ = some (Value.slice (some ⟨g0, 0, none⟩) 1 cap0) := fun f q => q.ob.e.c3
      have wd : IntKind.i64.wrap (deep - 1) = deep - 1 := SK.wrap_id (by omega) (by omega)
      refine LZ.region (Cx k (p0 + B * 9) B w.heap.size eb kd (Value.slice (some ⟨g0, 0, none⟩) 1 cap0) (s0') wl wmk) (ndE (eb + 1) (Value.slice (some ⟨g0, 0, none⟩) 1 cap0) s0'.len) 9 [0, 1, 2, 3, 4, 5, 6, 7, 8] ndE_local (by kernel_rfl) (by kernel_rfl) Cx.mono ⟨⟨wmk.drew, ⟨p0, R.drew, Nat.le_refl _⟩, TL.drew, Nat.le_refl _, ob_keep OB rfl, ob_keep X rfl, OW.keep (fun _ _ _ => rfl)⟩, rfl⟩ ?_
      iterate 6 (refine LZ.stepD rfl rfl (fun N hN => ?_); go_simp; apply Exists.intro; refine ⟨fun _ _ _ => ?_, hN _ _ ?_⟩; exact And.intro rfl rfl; clear hN N)
      refine LZ.stepN rfl rfl (fun N hN => ?_)
      go_simp
      refine ⟨fun f q _ => And.intro rfl ((call_x q hke hbs eK hk0 h3 fun p' Rp hp' => (c q.w p' (by omega) Rp).mono fun e w' ⟨kk, a, c, t, u, q', h1, h2, _, h4, h5, h6⟩ => ⟨kk, a, c, t, u, q', h1, h2.kids, h4, h5, h6⟩).mono fun e w' ⟨u, h1, h2, h3⟩ => ⟨u, h1, h2, h3, fun x hx => by cases hx⟩), ?_⟩
      rintro u wn ⟨k1, a1, c1, s1, x1, rfl, hx⟩
      refine hN _ _ ?_
      clear hN N hx wn
      refine LZ.stepN rfl rfl (fun N hN => ?_)
      go_simp
      refine ⟨fun f q hk' => ?_, ?_⟩
      · obtain ⟨k2, a2, c2, s2, x2, ex, hx⟩ := (hk' _ (List.mem_cons_self ..)).2
        cases ex
        obtain ⟨A1, A2, A3⟩ := alloc_x q hke hbs h3 _ _ _ hx 25 _ rfl
        exact ⟨A1, A2, fun y hy => by simp only [List.mem_cons, List.not_mem_nil, or_false] at hy; subst hy; exact P6.keep A3⟩
      rintro u wn ⟨b4, cp4, k4, a4, c4, s4, x4, rfl, ho4, he4, hx4⟩
      refine hN _ _ ?_
      clear hN N ho4 he4 hx4 wn k4 a4 c4 s4 x4
      refine LZ.stepN rfl rfl (fun N hN => ?_)
      rw [if_pos (by rfl)]
      refine ⟨fun f wx hC hk' => ?_, ?_⟩
      · obtain ⟨q, rfl⟩ := hC
        obtain ⟨b5, cp5, k5, a5, c5, s5, x5, ex, ho5, he5, hx5⟩ := (hk' _ (List.mem_cons_self ..)).2
        cases ex
        obtain ⟨v', w', hr, A1, A2, A3⟩ := app_x (cp := cp4) q hke hbs (fun e => by have e : some g0 = some eb := e; injection e with e; omega) (fun e => by have e : some g0 = some w.heap.size := e; injection e with e; omega) (by have := hl0.out; omega) ho5 he5 hx5 23
        refine nd_of (run_app rfl rfl rfl hr) ⟨A1, A2, fun y hy => ?_⟩
        simp only [List.mem_cons, List.not_mem_nil, or_false] at hy
        rcases hy with rfl | rfl
        · exact P7.keep A3
        · exact P6.keep A3
      rintro u ⟨wn, h8⟩
      refine hN _ _ ?_
      clear hN N h8 wn
      refine LZ.lexEnd ?_
      rintro w7 ⟨q, rfl⟩ kn
      obtain ⟨s1', hs8, hl1⟩ := (kn _ (List.mem_cons_self ..)).2
      clear kn
      obtain ⟨g1, cap1, rfl, gb1, gl⟩ := form_x hs8 hl1
      obtain ⟨p1, hp1, R7, T7, OB7, X7, OW7⟩ := stored_x q hke zE hs8
      have ⟨⟨o0, o1, o2, o3'⟩, of⟩ := q.ob
      simp only [List.drop]
      go_wp2_with fail
      clear o0 o1 o2 o3' of o3 wd h3 hbs X OB OW R TL hs8
      have OB := OB7
      have X := X7
      have OW := OW7
      have R := R7
      have TL := T7
      clear OB7 X7 OW7 R7 T7
      have gl1 : g1 < (q.w.setCell ⟨eb, 3, none⟩ (.slice (some ⟨g1, 0, none⟩) (s0'.len + 1) cap1)).heap.size := by rw [World.setCell_size']; exact gl
      generalize (q.w.setCell ⟨eb, 3, none⟩ (.slice (some ⟨g1, 0, none⟩) (s0'.len + 1) cap1)) = wn at *
      clear gl q
      rw [hl0.out] at OB OW hl1
      rw [rounds_succ]
      go_wp2_with fail
      refine (K31.out _).mono ?_
      rintro e wnk ⟨rfl, Bx⟩
      replace X := X.kept Bx
      have OB0 := OB
      replace OB := OB.kept Bx
      replace OW := OW.keep (fun b _ hl => Bx.block b hl)
      replace R := R.kept Bx
      replace TL := TL.trans (Tch.ofBelow (Bx.mono (Nat.le_of_lt (ob_lt OB0))))
      clear Bx OB0
      have ⟨⟨o0, o1, o2, o3⟩, of⟩ := OB
      have ⟨⟨x0, x1, x2, x3⟩, xf⟩ := X
      have TT := T.trans (TL.mono (Nat.le_of_lt sz4))
      have OZ := OW.weak (show w.heap.size + 1 ≤ eb + 1 by omega)
      go_wp2
      refine bodyPost_ret (v := exV kd 0 0 (.slice (some ⟨g1, 0, none⟩) 2 cap1)) (by simp [results, Try.results26, go_sem, *]) rfl ?_
      exact done R TT hk (by omega) (by omega) OZ
end DX
end Go.Proofs.Ytlkompbigpbefab
