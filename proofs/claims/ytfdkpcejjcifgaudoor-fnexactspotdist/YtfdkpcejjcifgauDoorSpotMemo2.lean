/-
  The program's functions that keep sines in a map: squares of sines, cosines, the square between two places.
-/
import Derived.Test.YtfdkpcejjcifgauDoorSpotMemo
import Derived.Test.YtfdkpcejjcifgauDoorSpotClip
import Derived.Test.YtfdkpcejjcifgauDoorLoose3
import Derived.Test.YtfdkpcejjcifgauDoorQuietTail
namespace Go.Proofs.YtfdkpcejjcifgauDoor
open Go.RowKit Go.Sort Go.Maps
set_option linter.unusedVariables false
namespace SK
/-- A world in which the map in block 'b' has been kept since 'w0': so many entries at most, when so many operations are left. -/
structure Mw (b N : Nat) (w0 : World) (f : Nat) where
  w : World
  me : ∃ n, Memo w b n ∧ n + f ≤ N
  tc : DK.Tch b w0.heap.size w0 w
abbrev Cm (b N : Nat) (w0 : World) : Nat → World → Prop := fun f w' => ∃ q : Mw b N w0 f, w' = q.w
theorem Cm.mono {b N : Nat} {w0 : World} : ∀ f w, Cm b N w0 (f + 1) w → Cm b N w0 f w := by
  rintro f w ⟨q, rfl⟩
  obtain ⟨n, h1, h2⟩ := q.me
  exact ⟨⟨q.w, ⟨n, h1, by omega⟩, q.tc⟩, rfl⟩
theorem Memo.mono {w : World} {b n m : Nat} (h : Memo w b n) (hn : n ≤ m) : Memo w b m := by
  obtain ⟨D, own, r⟩ := h
  exact ⟨D, own.mono hn, r⟩
theorem Cm.start {b n : Nat} {w0 : World} (k : Nat) (M : Memo w0 b n) : Cm b (n + k) w0 k { w0 with drawn := w0.drawn + 1 } :=
  ⟨⟨w0.drew, ⟨n, M.of_block rfl, Nat.le_refl _⟩, (DK.Tch.refl _ _ _).drew⟩, rfl⟩
theorem Mw.box {b N f : Nat} {w0 : World} (q : Mw b N w0 f) {c : Nat} {x y : Int} (X : Box w0 c x y) (ne : c ≠ b) : Box q.w c x y :=
  ⟨(q.tc.cell X.lt ne).trans X.c0, (q.tc.cell X.lt ne).trans X.c1, (q.tc.frozen X.lt ne).trans X.f0, (q.tc.frozen X.lt ne).trans X.f1⟩
theorem tchBox {b : Nat} {w w' : World} {c : Nat} {x y : Int} (X : Box w c x y) (t : DK.Tch b w.heap.size w w') (ne : c ≠ b) : Box w' c x y :=
  ⟨(t.cell X.lt ne).trans X.c0, (t.cell X.lt ne).trans X.c1, (t.frozen X.lt ne).trans X.f0, (t.frozen X.lt ne).trans X.f1⟩
/-- New blocks of two zeros, at most two of them (slots 'si' and 'sj'). -/
def ndM (base i j si sj : Nat) : Nat → Option (Act → Value → World → Prop) := fun x =>
  if x = i then some (fun a u w => ∃ c, u = .pointer (some ⟨c, 0, none⟩) ∧ base ≤ c ∧ Box w c 0 0 ∧ a.tmps.getD sj undef ≠ u)
  else if x = j then some (fun a u w => ∃ c, u = .pointer (some ⟨c, 0, none⟩) ∧ base ≤ c ∧ Box w c 0 0 ∧ a.tmps.getD si undef ≠ u) else none
theorem put_getD {a : Act} {dst : Option Tmp} {v : Value} {s : Nat} (h : dst ≠ some s) : (a.put dst v).tmps.getD s undef = a.tmps.getD s undef := by
  cases dst with
  | none => rfl
  | some d =>
    have hne : d ≠ s := fun e => h (by rw [e])
    simp [Act.put, Array.getElem?_setIfInBounds_ne hne]
theorem ndM_none {base i j si sj x : Nat} (h : ndM base i j si sj x = none) : x ≠ i ∧ x ≠ j := by
  unfold ndM at h
  split at h
  · cases h
  · split at h
    · cases h
    · rename_i h1 h2; exact ⟨h1, h2⟩
theorem ndM_local {ops : Array Oper} {base i j si sj : Nat} (h : ((List.range ops.size).all fun x => x == i || (x == j || ((ops[x]?).any fun o => o.dst != some si && o.dst != some sj))) = true) : LQ.Local ops (ndM base i j si sj) := by
  intro k Φ oj hn hj a dst v hd
  obtain ⟨_, x, ox, hx, hnx, rfl⟩ := hd
  have hn' := ndM_none hnx
  have hlt : x < ops.size := (Array.getElem?_eq_some_iff.1 hx).1
  have hz := List.all_eq_true.1 h x (List.mem_range.2 hlt)
  rw [hx] at hz
  simp only [Option.any_some, Bool.or_eq_true, beq_iff_eq, Bool.and_eq_true, bne_iff_ne, ne_eq] at hz
  have hz' : ¬ ox.dst = some si ∧ ¬ ox.dst = some sj := by
    rcases hz with e | e | e
    · exact absurd e hn'.1
    · exact absurd e hn'.2
    · exact e
  unfold ndM at hn
  split at hn
  · cases hn
    funext u w
    simp only [put_getD hz'.2]
  · split at hn
    · cases hn
      funext u w
      simp only [put_getD hz'.1]
    · cases hn
theorem ndM_keeps {b base i j si sj : Nat} {w w' : World} (hb : b < base) (t : DK.Tch b w.heap.size w w') : LQ.Keeps (ndM base i j si sj) w w' := by
  intro x Φ a u hn hu
  unfold ndM at hn
  split at hn
  · cases hn
    obtain ⟨c, rfl, h1, X, h2⟩ := hu
    exact ⟨c, rfl, h1, tchBox X t (by omega), h2⟩
  · split at hn
    · cases hn
      obtain ⟨c, rfl, h1, X, h2⟩ := hu
      exact ⟨c, rfl, h1, tchBox X t (by omega), h2⟩
    · cases hn
theorem Mw.alloc {b N f : Nat} {w0 : World} (q : Mw b N w0 (f + 1)) (o : Obj) : Cm b N w0 f (q.w.alloc o) := by
  obtain ⟨n, h1, h2⟩ := q.me
  exact ⟨⟨q.w.alloc o, ⟨n, h1.alloc o, by omega⟩, q.tc.alloc q.tc.size o⟩, rfl⟩
/-- A call that leaves all but new blocks alone. -/
theorem quiet_loose {nd : Nat → Option (Act → Value → World → Prop)} {g : FuncId} {args : Array Value} {v : Value} {b N f : Nat} {w0 : World} (q : Mw b N w0 (f + 1)) (hK : ∀ w w', DK.Tch b w.heap.size w w' → LQ.Keeps nd w w')
    (h : Calls Tryd.prog g args q.w fun e w' => e = .returned v ∧ Below q.w.heap.size q.w w') : Calls Tryd.prog g args q.w fun e w'' => e = .returned v ∧ Cm b N w0 f w'' ∧ LQ.Keeps nd q.w w'' := by
  obtain ⟨n, h1, h2⟩ := q.me
  exact h.mono fun e w' ⟨he, B⟩ => ⟨he, ⟨⟨w', ⟨n, h1.kept B, by omega⟩, q.tc.trans (DK.Tch.ofBelow (B.mono q.tc.size))⟩, rfl⟩, hK _ _ (DK.Tch.ofBelow B)⟩
/-- A call that keeps the map. -/
theorem memo_loose {nd : Nat → Option (Act → Value → World → Prop)} {g : FuncId} {args : Array Value} {v : Value} {b N f : Nat} {w0 : World} (q : Mw b N w0 (f + 1)) (hN : N ≤ 1000) (hK : ∀ w w', DK.Tch b w.heap.size w w' → LQ.Keeps nd w w')
    (h : ∀ n, n ≤ 999 → Memo q.w b n → Calls Tryd.prog g args q.w fun e w' => e = .returned v ∧ Memo w' b (n + 1) ∧ DK.Tch b q.w.heap.size q.w w') : Calls Tryd.prog g args q.w fun e w'' => e = .returned v ∧ Cm b N w0 f w'' ∧ LQ.Keeps nd q.w w'' := by
  obtain ⟨n, h1, h2⟩ := q.me
  exact (h n (by omega) h1).mono fun e w' ⟨he, M, T⟩ => ⟨he, ⟨⟨w', ⟨n + 1, M, by omega⟩, q.tc.trans (T.mono q.tc.size)⟩, rfl⟩, hK _ _ T⟩
theorem sqHalves_any (h : Int) (b n : Nat) (w : World) (M : Memo w b n) (hn : n ≤ 1000) (h0 : -3000000000 ≤ h) (h1 : h ≤ 3000000000) :
    Calls Tryd.prog 39 #[.map (some b), .int .i64 h] w fun e w' => e = .returned (spV (SI.oL h) (SI.oH h)) ∧ Memo w' b (n + 1) ∧ DK.Tch b w.heap.size w w' := by
  have hb := M.lt
  obtain ⟨_, f1, f2, f3, _⟩ := SI.si_enc h
  have K2 : ∀ w, Calls Tryd.prog 41 #[spV (SI.siL h) (SI.siH h), spV (SI.siL h) (SI.siH h)] w fun e w' => e = .returned (spV (SI.oL h) (SI.oH h)) ∧ Below w.heap.size w w' := fun w => clipMul_any _ _ _ _ w (by omega) (by omega) (by omega) (by omega) (by omega) (by omega)
  have K1 := fun w n M hn => memo_any h b n w M hn (by omega) (by omega)
  generalize SI.oL h = u at *
  generalize SI.oH h = v at *
  generalize SI.siL h = p at *
  generalize SI.siH h = q at *
  have R := Box.new w 0 0 34
  have T := (DK.Tch.refl b w.heap.size w).alloc (Nat.le_refl _) (.cells #[.int .i64 0, .int .i64 0] 34)
  go_enter Tryd.func39, Tryd.ntmps39
  go_wp2_with fail
  refine (K1 _ n (M.alloc _) hn).mono ?_
  rintro e w1 ⟨rfl, M1, T1⟩
  replace R := (tchBox R T1 (by omega)).alloc (.cells #[.int .i64 p, .int .i64 q] 34)
  replace T := (T.trans (T1.mono T.size)).alloc (Nat.le_trans T.size T1.size) (.cells #[.int .i64 p, .int .i64 q] 34)
  replace M1 := M1.alloc (.cells #[.int .i64 p, .int .i64 q] 34)
  clear T1 K1 M
  go_wp2_with fail
  refine (K2 _).mono ?_
  rintro e w2 ⟨rfl, B2⟩
  obtain ⟨r0, r1, r2, r3⟩ := R.kept B2
  replace T := T.trans (DK.Tch.ofBelow (B2.mono T.size))
  replace M1 := M1.kept B2
  clear B2 K2
  go_wp2
  refine bodyPost_ret (v := .agg #[.int .i64 u, .int .i64 v]) (by simp [results, Tryd.results39, go_sem, *]) rfl ⟨rfl, ?_, ?_⟩
  · exact M1.of_block ((Below.heap_setCell _ _ _ b (by simp; omega)).trans (Below.heap_setCell _ _ _ b (by simp; omega)))
  · exact T.trans ⟨rfl, rfl, rfl, by simp [World.setCell], fun j hj _ => (Below.heap_setCell _ _ _ _ (by simp; omega)).trans (Below.heap_setCell _ _ _ _ (by simp; omega))⟩
theorem mcos_any (a : Int) (b n : Nat) (w : World) (M : Memo w b n) (hn : n ≤ 1000) (h0 : -1000000000 ≤ a) (h1 : a ≤ 1000000000) :
    Calls Tryd.prog 40 #[.map (some b), .int .i64 a] w fun e w' => e = .returned (spV (SI.kL a) (SI.kH a)) ∧ Memo w' b (n + 1) ∧ DK.Tch b w.heap.size w w' := by
  have hb := M.lt
  have K2 : ∀ w, Calls Tryd.prog 43 #[spV (SI.siL (2 * a + 64800000)) (SI.siH (2 * a + 64800000))] w fun e w' => e = .returned (spV (SI.kL a) (SI.kH a)) ∧ Below w.heap.size w w' := fun w => clipped_any _ _ w
  have K1 := fun w n M hn => memo_any (2 * a + 64800000) b n w M hn (by omega) (by omega)
  generalize SI.kL a = u at *
  generalize SI.kH a = v at *
  generalize SI.siL (2 * a + 64800000) = p at *
  generalize SI.siH (2 * a + 64800000) = q at *
  have R := Box.new w 0 0 34
  have T := (DK.Tch.refl b w.heap.size w).alloc (Nat.le_refl _) (.cells #[.int .i64 0, .int .i64 0] 34)
  go_enter Tryd.func40, Tryd.ntmps40
  go_wp2_with fail
  refine (K1 _ n (M.alloc _) hn).mono ?_
  rintro e w1 ⟨rfl, M1, T1⟩
  replace R := tchBox R T1 (by omega)
  replace T := T.trans (T1.mono T.size)
  clear T1 K1 M
  go_wp2_with fail
  refine (K2 _).mono ?_
  rintro e w2 ⟨rfl, B2⟩
  obtain ⟨r0, r1, r2, r3⟩ := R.kept B2
  replace T := T.trans (DK.Tch.ofBelow (B2.mono T.size))
  replace M1 := M1.kept B2
  clear B2 K2
  go_wp2
  refine bodyPost_ret (v := .agg #[.int .i64 u, .int .i64 v]) (by simp [results, Tryd.results40, go_sem, *]) rfl ⟨rfl, ?_, ?_⟩
  · exact M1.of_block ((Below.heap_setCell _ _ _ b (by simp; omega)).trans (Below.heap_setCell _ _ _ b (by simp; omega)))
  · exact T.trans ⟨rfl, rfl, rfl, by simp [World.setCell], fun j hj _ => (Below.heap_setCell _ _ _ _ (by simp; omega)).trans (Below.heap_setCell _ _ _ _ (by simp; omega))⟩
set_option maxHeartbeats 4000000 in
theorem msquare_any (p0 p1 q0 q1 : Int) (b n : Nat) (w : World) (M : Memo w b n) (hn : n ≤ 900) (a0 : -32400000 ≤ p0) (a1 : p0 ≤ 32400000) (l0 : 0 ≤ p1) (l1 : p1 ≤ 129599999) (b0 : -32400000 ≤ q0) (b1 : q0 ≤ 32400000) (m0 : 0 ≤ q1) (m1 : q1 ≤ 129599999) :
    Calls Tryd.prog 16 #[.map (some b), spV p0 p1, spV q0 q1] w fun e w' => e = .returned (spV (SI.sqL p0 p1 q0 q1) (SI.sqH p0 p1 q0 q1)) ∧ Memo w' b (n + 30) ∧ DK.Tch b w.heap.size w w' := by
  have hb := M.lt
  have o1 := SI.o_bd (q0 - p0)
  have o2 := SI.o_bd (q1 - p1)
  have kp := SI.k_le p0
  have kq := SI.k_le q0
  have kp0 : 0 ≤ SI.kL p0 := (SI.clp_bd _).1
  have kp1 : SI.kH p0 ≤ 1000000000 := (SI.clp_bd _).2
  have kq0 : 0 ≤ SI.kL q0 := (SI.clp_bd _).1
  have kq1 : SI.kH q0 ≤ 1000000000 := (SI.clp_bd _).2
  have bb := SI.b_le p0 q0
  have bb0 : 0 ≤ SI.bL p0 q0 := (SI.clp_bd _).1
  have bb1 : SI.bH p0 q0 ≤ 1000000000 := (SI.clp_bd _).2
  have tt := SI.t_bd p0 q0 (q1 - p1)
  have C1 := fun w n M hn => sqHalves_any (q0 - p0) b n w M hn (by omega) (by omega)
  have C2 := fun w n M hn => sqHalves_any (q1 - p1) b n w M hn (by omega) (by omega)
  have C3 := fun w n M hn => mcos_any p0 b n w M hn (by omega) (by omega)
  have C4 := fun w n M hn => mcos_any q0 b n w M hn (by omega) (by omega)
  have C5 : ∀ w, Calls Tryd.prog 41 #[spV (SI.kL p0) (SI.kH p0), spV (SI.kL q0) (SI.kH q0)] w fun e w' => e = .returned (spV (SI.bL p0 q0) (SI.bH p0 q0)) ∧ Below w.heap.size w w' := fun w => clipMul_any _ _ _ _ w (by omega) (by omega) (by omega) (by omega) (by omega) (by omega)
  have C6 : ∀ w, Calls Tryd.prog 41 #[spV (SI.bL p0 q0) (SI.bH p0 q0), spV (SI.oL (q1 - p1)) (SI.oH (q1 - p1))] w fun e w' => e = .returned (spV (SI.tL p0 q0 (q1 - p1)) (SI.tH p0 q0 (q1 - p1))) ∧ Below w.heap.size w w' := fun w => (clipMul_any _ _ _ _ w (by omega) (by omega) (by omega) (by omega) (by omega) (by omega)).mono fun _ _ ⟨h1, h2⟩ => ⟨by rw [h1]; have e1 := SI.clp_id tt.1 (show SI.tL p0 q0 (q1 - p1) ≤ 1000000000 by omega); have e2 := SI.clp_id (show 0 ≤ SI.tH p0 q0 (q1 - p1) by omega) tt.2.2; unfold SI.tL at e1 ⊢; unfold SI.tH at e2 ⊢; rw [e1, e2], h2⟩
  have C7 : ∀ w, Calls Tryd.prog 42 #[spV (SI.tL p0 q0 (q1 - p1)) (SI.tH p0 q0 (q1 - p1)), spV (SI.oL (q0 - p0)) (SI.oH (q0 - p0))] w fun e w' => e = .returned (spV (SI.oL (q0 - p0) + SI.tL p0 q0 (q1 - p1)) (SI.oH (q0 - p0) + SI.tH p0 q0 (q1 - p1))) ∧ Below w.heap.size w w' := fun w => (plus_eq _ _ _ _ w (by omega) (by omega) (by omega) (by omega) (by omega) (by omega) (by omega) (by omega)).mono fun _ _ ⟨a, b⟩ => ⟨by rw [a, Int.add_comm (SI.tL p0 q0 (q1 - p1)), Int.add_comm (SI.tH p0 q0 (q1 - p1))], b ▸ below1 (below_new2 w _ _) (below_new _ _)⟩
  have C8 : ∀ w, Calls Tryd.prog 43 #[spV (SI.oL (q0 - p0) + SI.tL p0 q0 (q1 - p1)) (SI.oH (q0 - p0) + SI.tH p0 q0 (q1 - p1))] w fun e w' => e = .returned (spV (SI.sqL p0 p1 q0 q1) (SI.sqH p0 p1 q0 q1)) ∧ Below w.heap.size w w' := fun w => clipped_any _ _ w
  clear o1 o2 kp kq kp0 kp1 kq0 kq1 bb bb0 bb1
  generalize SI.sqL p0 p1 q0 q1 = z1 at *
  generalize SI.sqH p0 p1 q0 q1 = z2 at *
  generalize SI.oL (q0 - p0) + SI.tL p0 q0 (q1 - p1) = y1 at *
  generalize SI.oH (q0 - p0) + SI.tH p0 q0 (q1 - p1) = y2 at *
  clear tt
  generalize SI.tL p0 q0 (q1 - p1) = t1 at *
  generalize SI.tH p0 q0 (q1 - p1) = t2 at *
  generalize SI.oL (q0 - p0) = u1 at *
  generalize SI.oH (q0 - p0) = u2 at *
  generalize SI.oL (q1 - p1) = s1 at *
  generalize SI.oH (q1 - p1) = s2 at *
  generalize SI.bL p0 q0 = e1 at *
  generalize SI.bH p0 q0 = e2 at *
  generalize SI.kL p0 = g1 at *
  generalize SI.kH p0 = g2 at *
  generalize SI.kL q0 = h1 at *
  generalize SI.kH q0 = h2 at *
  have P := ((Box.new w p0 p1 28).alloc (.cells #[.int .i64 q0, .int .i64 q1] 28)).alloc (.cells #[.int .i64 0, .int .i64 0] 34)
  have Q := (Box.new2 w (.cells #[.int .i64 p0, .int .i64 p1] 28) q0 q1 28).alloc (.cells #[.int .i64 0, .int .i64 0] 34)
  have R : Box (((w.alloc (.cells #[.int .i64 p0, .int .i64 p1] 28)).alloc (.cells #[.int .i64 q0, .int .i64 q1] 28)).alloc (.cells #[.int .i64 0, .int .i64 0] 34)) (w.heap.size + 1 + 1) 0 0 := by simpa using Box.new ((w.alloc (.cells #[.int .i64 p0, .int .i64 p1] 28)).alloc (.cells #[.int .i64 q0, .int .i64 q1] 28)) 0 0 34
  have T : DK.Tch b w.heap.size w (((w.alloc (.cells #[.int .i64 p0, .int .i64 p1] 28)).alloc (.cells #[.int .i64 q0, .int .i64 q1] 28)).alloc (.cells #[.int .i64 0, .int .i64 0] 34)) := DK.Tch.ofBelow (below1 (below_new2 w _ _) (below_new _ _))
  replace M := ((M.alloc (.cells #[.int .i64 p0, .int .i64 p1] 28)).alloc (.cells #[.int .i64 q0, .int .i64 q1] 28)).alloc (.cells #[.int .i64 0, .int .i64 0] 34)
  go_enter Tryd.func16, Tryd.ntmps16
  go_wp2_with fail
  generalize ((w.alloc (.cells #[.int .i64 p0, .int .i64 p1] 28)).alloc (.cells #[.int .i64 q0, .int .i64 q1] 28)).alloc (.cells #[.int .i64 0, .int .i64 0] 34) = w1 at *
  have hs1 := T.size
  have hR1 := R.lt
  have v1 : IntKind.i64.wrap (q0 - p0) = q0 - p0 := wrap_id (by omega) (by omega)
  have v2 : IntKind.i64.wrap (q1 - p1) = q1 - p1 := wrap_id (by omega) (by omega)
  have x0 : ∀ f (q : Mw b (n + 16) w1 f), q.w.cell? ⟨w.heap.size, 0, none⟩ = some (.int .i64 p0) := fun f q => (q.box P (by omega)).c0
  have x1 : ∀ f (q : Mw b (n + 16) w1 f), q.w.cell? ⟨w.heap.size, 1, none⟩ = some (.int .i64 p1) := fun f q => (q.box P (by omega)).c1
  have x2 : ∀ f (q : Mw b (n + 16) w1 f), q.w.cell? ⟨w.heap.size + 1, 0, none⟩ = some (.int .i64 q0) := fun f q => (q.box Q (by omega)).c0
  have x3 : ∀ f (q : Mw b (n + 16) w1 f), q.w.cell? ⟨w.heap.size + 1, 1, none⟩ = some (.int .i64 q1) := fun f q => (q.box Q (by omega)).c1
  have kp : ∀ v v', DK.Tch b v.heap.size v v' → LQ.Keeps (ndM w1.heap.size 14 15 7 8) v v' := fun v v' t => ndM_keeps (by omega) t
  refine LQ.regionT (Cm b (n + 16) w1) (ndM w1.heap.size 14 15 7 8) 16 (.det 0 (.det 1 (.det 2 (.det 3 (.det 4 (.det 5 (.det 6 (.det 7 (.det 8 (.det 9 (.det 10 (.det 11 (.det 12 (.det 13 (.two 14 (.one 15 .nil) 15 (.one 14 .nil)))))))))))))))) (ndM_local (by kernel_rfl)) (by kernel_rfl) (by kernel_rfl) Cm.mono (Cm.start 16 M) ?_
  iterate 6 (refine LQ.stepDT rfl rfl (fun N hN => ?_); go_simp; apply Exists.intro; refine ⟨fun _ _ _ => ?_, hN _ _ ?_⟩; exact And.intro rfl rfl; clear hN N)
  refine LQ.stepDT rfl rfl (fun N hN => ?_)
  go_simp
  apply Exists.intro
  refine ⟨fun f q _ => And.intro rfl ?_, hN _ _ ?_⟩
  exact memo_loose q (by omega) kp fun n' hn' M' => C1 _ n' M' (by omega)
  clear hN N
  iterate 6 (refine LQ.stepDT rfl rfl (fun N hN => ?_); go_simp; apply Exists.intro; refine ⟨fun _ _ _ => ?_, hN _ _ ?_⟩; exact And.intro rfl rfl; clear hN N)
  refine LQ.stepDT rfl rfl (fun N hN => ?_)
  go_simp
  apply Exists.intro
  refine ⟨fun f q _ => And.intro rfl ?_, hN _ _ ?_⟩
  exact memo_loose q (by omega) kp fun n' hn' M' => C2 _ n' M' (by omega)
  clear hN N
  refine LQ.stepTwo ?_ ?_
  · refine LQ.opN rfl rfl (fun N hN => ?_)
    go_simp
    refine ⟨fun f q _ => ⟨q.alloc _, ⟨_, rfl, q.tc.size, Box.new _ 0 0 _, ?_⟩, kp _ _ (DK.Tch.ofBelow (below_new _ _))⟩, ?_⟩
    · simp [undef]
    rintro u wz c rfl cb cX cn
    refine hN _ _ ?_
    clear hN N
    refine LQ.stepOne ?_
    refine LQ.opN rfl rfl (fun N hN => ?_)
    go_simp
    refine ⟨fun f q hk => ⟨q.alloc _, ⟨_, rfl, q.tc.size, Box.new _ 0 0 _, ?_⟩, kp _ _ (DK.Tch.ofBelow (below_new _ _))⟩, ?_⟩
    · obtain ⟨_, X⟩ := hk _ (List.mem_cons_self ..); have := X.lt; intro e; simp at e
    rintro u wz d rfl db dX dn
    refine hN _ _ ?_
    clear hN N
    refine LQ.lexEndT ?_
    rintro w2 ⟨q, rfl⟩ kn
    obtain ⟨_, c', ec, _, dY, _⟩ := kn _ (List.mem_cons_self ..)
    cases ec
    obtain ⟨_, cY⟩ := kn _ (List.mem_cons_of_mem _ (List.mem_cons_self ..))
    clear kn x0 x1 x2 x3 kp cX dX
    have cd : ¬ c = d := fun e => dn (by rw [e])
    have dc : ¬ d = c := fun e => cd e.symm
    obtain ⟨n2, M2, hn2⟩ := q.me
    replace P := q.box P (by omega)
    replace Q := q.box Q (by omega)
    replace R := q.box R (by omega)
    replace T := T.trans (q.tc.mono T.size)
    have hs2 := q.tc.size
    generalize q.w = w2 at *
    clear M cn dn
    simp only [List.drop]
    have ⟨y0, y1, y2, y3⟩ := cY
    have ⟨i0, i1, i2, i3⟩ := dY
    have hc := cY.lt
    have hd := dY.lt
    go_wp2_with fail
    clear y0 y1 y2 y3 i0 i1 i2 i3
    replace P := P.apart (c := c) (o := 0) (by omega) (.int .i64 u1)
    replace Q := Q.apart (c := c) (o := 0) (by omega) (.int .i64 u1)
    replace R := R.apart (c := c) (o := 0) (by omega) (.int .i64 u1)
    replace P := P.apart (c := c) (o := 1) (by omega) (.int .i64 u2)
    replace Q := Q.apart (c := c) (o := 1) (by omega) (.int .i64 u2)
    replace R := R.apart (c := c) (o := 1) (by omega) (.int .i64 u2)
    replace P := P.apart (c := d) (o := 0) (by omega) (.int .i64 s1)
    replace Q := Q.apart (c := d) (o := 0) (by omega) (.int .i64 s1)
    replace R := R.apart (c := d) (o := 0) (by omega) (.int .i64 s1)
    replace P := P.apart (c := d) (o := 1) (by omega) (.int .i64 s2)
    replace Q := Q.apart (c := d) (o := 1) (by omega) (.int .i64 s2)
    replace R := R.apart (c := d) (o := 1) (by omega) (.int .i64 s2)
    have C := ((cY.set u1 u2).apart (c := d) (o := 0) dc (.int .i64 s1)).apart (c := d) (o := 1) dc (.int .i64 s2)
    have E := ((dY.apart (c := c) (o := 0) cd (.int .i64 u1)).apart (c := c) (o := 1) cd (.int .i64 u2)).set s1 s2
    have M3 : Memo ((((w2.setCell ⟨c, 0, none⟩ (.int .i64 u1)).setCell ⟨c, 1, none⟩ (.int .i64 u2)).setCell ⟨d, 0, none⟩ (.int .i64 s1)).setCell ⟨d, 1, none⟩ (.int .i64 s2)) b n2 := M2.of_block (((Below.heap_setCell _ _ _ b (by simp; omega)).trans (Below.heap_setCell _ _ _ b (by simp; omega))).trans ((Below.heap_setCell _ _ _ b (by simp; omega)).trans (Below.heap_setCell _ _ _ b (by simp; omega))))
    replace T : DK.Tch b w.heap.size w ((((w2.setCell ⟨c, 0, none⟩ (.int .i64 u1)).setCell ⟨c, 1, none⟩ (.int .i64 u2)).setCell ⟨d, 0, none⟩ (.int .i64 s1)).setCell ⟨d, 1, none⟩ (.int .i64 s2)) := T.trans ⟨rfl, rfl, rfl, by simp [World.setCell], fun j hj _ => ((Below.heap_setCell _ _ _ _ (by simp; omega)).trans (Below.heap_setCell _ _ _ _ (by simp; omega))).trans ((Below.heap_setCell _ _ _ _ (by simp; omega)).trans (Below.heap_setCell _ _ _ _ (by simp; omega)))⟩
    generalize (((w2.setCell ⟨c, 0, none⟩ (.int .i64 u1)).setCell ⟨c, 1, none⟩ (.int .i64 u2)).setCell ⟨d, 0, none⟩ (.int .i64 s1)).setCell ⟨d, 1, none⟩ (.int .i64 s2) = w3 at *
    clear M2 cY dY
    have hs3 := T.size
    have hR3 := R.lt
    have hC3 := C.lt
    have hE3 := E.lt
    have x0 : ∀ f (q : Mw b (n2 + 10) w3 f), q.w.cell? ⟨w.heap.size, 0, none⟩ = some (.int .i64 p0) := fun f q => (q.box P (by omega)).c0
    have x2 : ∀ f (q : Mw b (n2 + 10) w3 f), q.w.cell? ⟨w.heap.size + 1, 0, none⟩ = some (.int .i64 q0) := fun f q => (q.box Q (by omega)).c0
    have kp : ∀ v v', DK.Tch b v.heap.size v v' → LQ.Keeps (ndM w3.heap.size 9 99 9 9) v v' := fun v v' t => ndM_keeps (by omega) t
    refine LQ.region (Cm b (n2 + 10) w3) (ndM w3.heap.size 9 99 9 9) 10 [0, 1, 2, 3, 4, 5, 6, 7, 8, 9] (ndM_local (by kernel_rfl)) (by kernel_rfl) (by kernel_rfl) Cm.mono (Cm.start 10 M3) ?_
    iterate 3 (refine LQ.stepD rfl rfl (fun N hN => ?_); go_simp; apply Exists.intro; refine ⟨fun _ _ _ => ?_, hN _ _ ?_⟩; exact And.intro rfl rfl; clear hN N)
    refine LQ.stepD rfl rfl (fun N hN => ?_)
    go_simp
    apply Exists.intro
    refine ⟨fun f q _ => And.intro rfl ?_, hN _ _ ?_⟩
    exact memo_loose q (by omega) kp fun n' hn' M' => C3 _ n' M' (by omega)
    clear hN N
    iterate 3 (refine LQ.stepD rfl rfl (fun N hN => ?_); go_simp; apply Exists.intro; refine ⟨fun _ _ _ => ?_, hN _ _ ?_⟩; exact And.intro rfl rfl; clear hN N)
    refine LQ.stepD rfl rfl (fun N hN => ?_)
    go_simp
    apply Exists.intro
    refine ⟨fun f q _ => And.intro rfl ?_, hN _ _ ?_⟩
    exact memo_loose q (by omega) kp fun n' hn' M' => C4 _ n' M' (by omega)
    clear hN N
    refine LQ.stepD rfl rfl (fun N hN => ?_)
    go_simp
    apply Exists.intro
    refine ⟨fun f q _ => And.intro rfl ?_, hN _ _ ?_⟩
    exact quiet_loose q kp (C5 _)
    clear hN N
    refine LQ.stepN rfl rfl (fun N hN => ?_)
    go_simp
    refine ⟨fun f q _ => ⟨q.alloc _, ⟨_, rfl, q.tc.size, Box.new _ 0 0 _, ?_⟩, kp _ _ (DK.Tch.ofBelow (below_new _ _))⟩, ?_⟩
    · simp [undef]
    rintro u wz g rfl gb gX gn
    refine hN _ _ ?_
    clear hN N
    refine LQ.lexEnd ?_
    rintro w4 ⟨q, rfl⟩ kn
    obtain ⟨_, c', ec, _, gY, _⟩ := kn _ (List.mem_cons_self ..)
    cases ec
    clear kn x0 x2 kp gX
    obtain ⟨n4, M4, hn4⟩ := q.me
    replace P := q.box P (by omega)
    replace Q := q.box Q (by omega)
    replace R := q.box R (by omega)
    replace C := q.box C (by omega)
    replace E := q.box E (by omega)
    replace T := T.trans (q.tc.mono T.size)
    have hs4 := q.tc.size
    generalize q.w = w4 at *
    clear M3 gn
    simp only [List.drop]
    have ⟨y0, y1, y2, y3⟩ := gY
    have hg := gY.lt
    go_wp2_with fail
    clear y0 y1 y2 y3
    replace R := R.apart (c := g) (o := 0) (by omega) (.int .i64 e1)
    replace C := C.apart (c := g) (o := 0) (by omega) (.int .i64 e1)
    replace E := E.apart (c := g) (o := 0) (by omega) (.int .i64 e1)
    replace R := R.apart (c := g) (o := 1) (by omega) (.int .i64 e2)
    replace C := C.apart (c := g) (o := 1) (by omega) (.int .i64 e2)
    replace E := E.apart (c := g) (o := 1) (by omega) (.int .i64 e2)
    have G := gY.set e1 e2
    have M5 : Memo ((w4.setCell ⟨g, 0, none⟩ (.int .i64 e1)).setCell ⟨g, 1, none⟩ (.int .i64 e2)) b n4 := M4.of_block ((Below.heap_setCell _ _ _ b (by simp; omega)).trans (Below.heap_setCell _ _ _ b (by simp; omega)))
    replace T : DK.Tch b w.heap.size w ((w4.setCell ⟨g, 0, none⟩ (.int .i64 e1)).setCell ⟨g, 1, none⟩ (.int .i64 e2)) := T.trans ⟨rfl, rfl, rfl, by simp [World.setCell], fun j hj _ => (Below.heap_setCell _ _ _ _ (by simp; omega)).trans (Below.heap_setCell _ _ _ _ (by simp; omega))⟩
    generalize (w4.setCell ⟨g, 0, none⟩ (.int .i64 e1)).setCell ⟨g, 1, none⟩ (.int .i64 e2) = w5 at *
    clear M4 gY P Q
    have k0 := cell_regrown C.c0
    have k1 := cell_regrown C.c1
    have k2 := cell_regrown E.c0
    have k3 := cell_regrown E.c1
    have k4 := cell_regrown G.c0
    have k5 := cell_regrown G.c1
    have c6 : ∀ d os, Calls Tryd.prog 41 #[spV e1 e2, spV s1 s2] (grow (redrawn w5 d) os) fun e w'' => e = .returned (spV t1 t2) ∧ ∃ p : Regrown, w'' = grow (redrawn w5 p.d) p.os := fun d os => Calls.regrown_of (C6 _)
    have c7 : ∀ d os, Calls Tryd.prog 42 #[spV t1 t2, spV u1 u2] (grow (redrawn w5 d) os) fun e w'' => e = .returned (spV y1 y2) ∧ ∃ p : Regrown, w'' = grow (redrawn w5 p.d) p.os := fun d os => Calls.regrown_of (C7 _)
    have c8 : ∀ d os, Calls Tryd.prog 43 #[spV y1 y2] (grow (redrawn w5 d) os) fun e w'' => e = .returned (spV z1 z2) ∧ ∃ p : Regrown, w'' = grow (redrawn w5 p.d) p.os := fun d os => Calls.regrown_of (C8 _)
    refine QT.region 6 (by kernel_rfl) (by kernel_rfl) ?_
    simp only [List.take, List.drop]
    repeat (quiet_step (fail))
    quiet_step (exact c6 _ _)
    repeat (quiet_step (fail))
    quiet_step (exact c7 _ _)
    repeat (quiet_step (fail))
    quiet_step (exact c8 _ _)
    repeat (quiet_step (fail))
    refine wpQuiet_nil ?_
    rintro _ ⟨p', rfl⟩
    have B6 := below_regrown w5 p'.d p'.os
    generalize grow (redrawn w5 p'.d) p'.os = w6 at *
    obtain ⟨r0, r1, r2, r3⟩ := R.kept B6
    replace M5 := M5.kept B6
    replace T := T.trans (DK.Tch.ofBelow (B6.mono T.size))
    clear B6 c6 c7 c8 k0 k1 k2 k3 k4 k5 C E G R
    go_wp2
    refine bodyPost_ret (v := .agg #[.int .i64 z1, .int .i64 z2]) (by simp [results, Tryd.results16, go_sem, *]) rfl ⟨rfl, ?_, ?_⟩
    · exact (M5.of_block ((Below.heap_setCell _ _ _ b (by simp; omega)).trans (Below.heap_setCell _ _ _ b (by simp; omega)))).mono (by omega)
    · exact T.trans ⟨rfl, rfl, rfl, by simp [World.setCell], fun j hj _ => (Below.heap_setCell _ _ _ _ (by simp; omega)).trans (Below.heap_setCell _ _ _ _ (by simp; omega))⟩
  · refine LQ.opN rfl rfl (fun N hN => ?_)
    go_simp
    refine ⟨fun f q _ => ⟨q.alloc _, ⟨_, rfl, q.tc.size, Box.new _ 0 0 _, ?_⟩, kp _ _ (DK.Tch.ofBelow (below_new _ _))⟩, ?_⟩
    · simp [undef]
    rintro u wz d rfl db dX dn
    refine hN _ _ ?_
    clear hN N
    refine LQ.stepOne ?_
    refine LQ.opN rfl rfl (fun N hN => ?_)
    go_simp
    refine ⟨fun f q hk => ⟨q.alloc _, ⟨_, rfl, q.tc.size, Box.new _ 0 0 _, ?_⟩, kp _ _ (DK.Tch.ofBelow (below_new _ _))⟩, ?_⟩
    · obtain ⟨_, X⟩ := hk _ (List.mem_cons_self ..); have := X.lt; intro e; simp at e
    rintro u wz c rfl cb cX cn
    refine hN _ _ ?_
    clear hN N
    refine LQ.lexEndT ?_
    rintro w2 ⟨q, rfl⟩ kn
    obtain ⟨_, c', ec, _, cY, _⟩ := kn _ (List.mem_cons_self ..)
    cases ec
    obtain ⟨_, dY⟩ := kn _ (List.mem_cons_of_mem _ (List.mem_cons_self ..))
    clear kn x0 x1 x2 x3 kp cX dX
    have cd : ¬ c = d := fun e => cn (by rw [e])
    have dc : ¬ d = c := fun e => cd e.symm
    obtain ⟨n2, M2, hn2⟩ := q.me
    replace P := q.box P (by omega)
    replace Q := q.box Q (by omega)
    replace R := q.box R (by omega)
    replace T := T.trans (q.tc.mono T.size)
    have hs2 := q.tc.size
    generalize q.w = w2 at *
    clear M cn dn
    simp only [List.drop]
    have ⟨y0, y1, y2, y3⟩ := cY
    have ⟨i0, i1, i2, i3⟩ := dY
    have hc := cY.lt
    have hd := dY.lt
    go_wp2_with fail
    clear y0 y1 y2 y3 i0 i1 i2 i3
    replace P := P.apart (c := c) (o := 0) (by omega) (.int .i64 u1)
    replace Q := Q.apart (c := c) (o := 0) (by omega) (.int .i64 u1)
    replace R := R.apart (c := c) (o := 0) (by omega) (.int .i64 u1)
    replace P := P.apart (c := c) (o := 1) (by omega) (.int .i64 u2)
    replace Q := Q.apart (c := c) (o := 1) (by omega) (.int .i64 u2)
    replace R := R.apart (c := c) (o := 1) (by omega) (.int .i64 u2)
    replace P := P.apart (c := d) (o := 0) (by omega) (.int .i64 s1)
    replace Q := Q.apart (c := d) (o := 0) (by omega) (.int .i64 s1)
    replace R := R.apart (c := d) (o := 0) (by omega) (.int .i64 s1)
    replace P := P.apart (c := d) (o := 1) (by omega) (.int .i64 s2)
    replace Q := Q.apart (c := d) (o := 1) (by omega) (.int .i64 s2)
    replace R := R.apart (c := d) (o := 1) (by omega) (.int .i64 s2)
    have C := ((cY.set u1 u2).apart (c := d) (o := 0) dc (.int .i64 s1)).apart (c := d) (o := 1) dc (.int .i64 s2)
    have E := ((dY.apart (c := c) (o := 0) cd (.int .i64 u1)).apart (c := c) (o := 1) cd (.int .i64 u2)).set s1 s2
    have M3 : Memo ((((w2.setCell ⟨c, 0, none⟩ (.int .i64 u1)).setCell ⟨c, 1, none⟩ (.int .i64 u2)).setCell ⟨d, 0, none⟩ (.int .i64 s1)).setCell ⟨d, 1, none⟩ (.int .i64 s2)) b n2 := M2.of_block (((Below.heap_setCell _ _ _ b (by simp; omega)).trans (Below.heap_setCell _ _ _ b (by simp; omega))).trans ((Below.heap_setCell _ _ _ b (by simp; omega)).trans (Below.heap_setCell _ _ _ b (by simp; omega))))
    replace T : DK.Tch b w.heap.size w ((((w2.setCell ⟨c, 0, none⟩ (.int .i64 u1)).setCell ⟨c, 1, none⟩ (.int .i64 u2)).setCell ⟨d, 0, none⟩ (.int .i64 s1)).setCell ⟨d, 1, none⟩ (.int .i64 s2)) := T.trans ⟨rfl, rfl, rfl, by simp [World.setCell], fun j hj _ => ((Below.heap_setCell _ _ _ _ (by simp; omega)).trans (Below.heap_setCell _ _ _ _ (by simp; omega))).trans ((Below.heap_setCell _ _ _ _ (by simp; omega)).trans (Below.heap_setCell _ _ _ _ (by simp; omega)))⟩
    generalize (((w2.setCell ⟨c, 0, none⟩ (.int .i64 u1)).setCell ⟨c, 1, none⟩ (.int .i64 u2)).setCell ⟨d, 0, none⟩ (.int .i64 s1)).setCell ⟨d, 1, none⟩ (.int .i64 s2) = w3 at *
    clear M2 cY dY
    have hs3 := T.size
    have hR3 := R.lt
    have hC3 := C.lt
    have hE3 := E.lt
    have x0 : ∀ f (q : Mw b (n2 + 10) w3 f), q.w.cell? ⟨w.heap.size, 0, none⟩ = some (.int .i64 p0) := fun f q => (q.box P (by omega)).c0
    have x2 : ∀ f (q : Mw b (n2 + 10) w3 f), q.w.cell? ⟨w.heap.size + 1, 0, none⟩ = some (.int .i64 q0) := fun f q => (q.box Q (by omega)).c0
    have kp : ∀ v v', DK.Tch b v.heap.size v v' → LQ.Keeps (ndM w3.heap.size 9 99 9 9) v v' := fun v v' t => ndM_keeps (by omega) t
    refine LQ.region (Cm b (n2 + 10) w3) (ndM w3.heap.size 9 99 9 9) 10 [0, 1, 2, 3, 4, 5, 6, 7, 8, 9] (ndM_local (by kernel_rfl)) (by kernel_rfl) (by kernel_rfl) Cm.mono (Cm.start 10 M3) ?_
    iterate 3 (refine LQ.stepD rfl rfl (fun N hN => ?_); go_simp; apply Exists.intro; refine ⟨fun _ _ _ => ?_, hN _ _ ?_⟩; exact And.intro rfl rfl; clear hN N)
    refine LQ.stepD rfl rfl (fun N hN => ?_)
    go_simp
    apply Exists.intro
    refine ⟨fun f q _ => And.intro rfl ?_, hN _ _ ?_⟩
    exact memo_loose q (by omega) kp fun n' hn' M' => C3 _ n' M' (by omega)
    clear hN N
    iterate 3 (refine LQ.stepD rfl rfl (fun N hN => ?_); go_simp; apply Exists.intro; refine ⟨fun _ _ _ => ?_, hN _ _ ?_⟩; exact And.intro rfl rfl; clear hN N)
    refine LQ.stepD rfl rfl (fun N hN => ?_)
    go_simp
    apply Exists.intro
    refine ⟨fun f q _ => And.intro rfl ?_, hN _ _ ?_⟩
    exact memo_loose q (by omega) kp fun n' hn' M' => C4 _ n' M' (by omega)
    clear hN N
    refine LQ.stepD rfl rfl (fun N hN => ?_)
    go_simp
    apply Exists.intro
    refine ⟨fun f q _ => And.intro rfl ?_, hN _ _ ?_⟩
    exact quiet_loose q kp (C5 _)
    clear hN N
    refine LQ.stepN rfl rfl (fun N hN => ?_)
    go_simp
    refine ⟨fun f q _ => ⟨q.alloc _, ⟨_, rfl, q.tc.size, Box.new _ 0 0 _, ?_⟩, kp _ _ (DK.Tch.ofBelow (below_new _ _))⟩, ?_⟩
    · simp [undef]
    rintro u wz g rfl gb gX gn
    refine hN _ _ ?_
    clear hN N
    refine LQ.lexEnd ?_
    rintro w4 ⟨q, rfl⟩ kn
    obtain ⟨_, c', ec, _, gY, _⟩ := kn _ (List.mem_cons_self ..)
    cases ec
    clear kn x0 x2 kp gX
    obtain ⟨n4, M4, hn4⟩ := q.me
    replace P := q.box P (by omega)
    replace Q := q.box Q (by omega)
    replace R := q.box R (by omega)
    replace C := q.box C (by omega)
    replace E := q.box E (by omega)
    replace T := T.trans (q.tc.mono T.size)
    have hs4 := q.tc.size
    generalize q.w = w4 at *
    clear M3 gn
    simp only [List.drop]
    have ⟨y0, y1, y2, y3⟩ := gY
    have hg := gY.lt
    go_wp2_with fail
    clear y0 y1 y2 y3
    replace R := R.apart (c := g) (o := 0) (by omega) (.int .i64 e1)
    replace C := C.apart (c := g) (o := 0) (by omega) (.int .i64 e1)
    replace E := E.apart (c := g) (o := 0) (by omega) (.int .i64 e1)
    replace R := R.apart (c := g) (o := 1) (by omega) (.int .i64 e2)
    replace C := C.apart (c := g) (o := 1) (by omega) (.int .i64 e2)
    replace E := E.apart (c := g) (o := 1) (by omega) (.int .i64 e2)
    have G := gY.set e1 e2
    have M5 : Memo ((w4.setCell ⟨g, 0, none⟩ (.int .i64 e1)).setCell ⟨g, 1, none⟩ (.int .i64 e2)) b n4 := M4.of_block ((Below.heap_setCell _ _ _ b (by simp; omega)).trans (Below.heap_setCell _ _ _ b (by simp; omega)))
    replace T : DK.Tch b w.heap.size w ((w4.setCell ⟨g, 0, none⟩ (.int .i64 e1)).setCell ⟨g, 1, none⟩ (.int .i64 e2)) := T.trans ⟨rfl, rfl, rfl, by simp [World.setCell], fun j hj _ => (Below.heap_setCell _ _ _ _ (by simp; omega)).trans (Below.heap_setCell _ _ _ _ (by simp; omega))⟩
    generalize (w4.setCell ⟨g, 0, none⟩ (.int .i64 e1)).setCell ⟨g, 1, none⟩ (.int .i64 e2) = w5 at *
    clear M4 gY P Q
    have k0 := cell_regrown C.c0
    have k1 := cell_regrown C.c1
    have k2 := cell_regrown E.c0
    have k3 := cell_regrown E.c1
    have k4 := cell_regrown G.c0
    have k5 := cell_regrown G.c1
    have c6 : ∀ d os, Calls Tryd.prog 41 #[spV e1 e2, spV s1 s2] (grow (redrawn w5 d) os) fun e w'' => e = .returned (spV t1 t2) ∧ ∃ p : Regrown, w'' = grow (redrawn w5 p.d) p.os := fun d os => Calls.regrown_of (C6 _)
    have c7 : ∀ d os, Calls Tryd.prog 42 #[spV t1 t2, spV u1 u2] (grow (redrawn w5 d) os) fun e w'' => e = .returned (spV y1 y2) ∧ ∃ p : Regrown, w'' = grow (redrawn w5 p.d) p.os := fun d os => Calls.regrown_of (C7 _)
    have c8 : ∀ d os, Calls Tryd.prog 43 #[spV y1 y2] (grow (redrawn w5 d) os) fun e w'' => e = .returned (spV z1 z2) ∧ ∃ p : Regrown, w'' = grow (redrawn w5 p.d) p.os := fun d os => Calls.regrown_of (C8 _)
    refine QT.region 6 (by kernel_rfl) (by kernel_rfl) ?_
    simp only [List.take, List.drop]
    repeat (quiet_step (fail))
    quiet_step (exact c6 _ _)
    repeat (quiet_step (fail))
    quiet_step (exact c7 _ _)
    repeat (quiet_step (fail))
    quiet_step (exact c8 _ _)
    repeat (quiet_step (fail))
    refine wpQuiet_nil ?_
    rintro _ ⟨p', rfl⟩
    have B6 := below_regrown w5 p'.d p'.os
    generalize grow (redrawn w5 p'.d) p'.os = w6 at *
    obtain ⟨r0, r1, r2, r3⟩ := R.kept B6
    replace M5 := M5.kept B6
    replace T := T.trans (DK.Tch.ofBelow (B6.mono T.size))
    clear B6 c6 c7 c8 k0 k1 k2 k3 k4 k5 C E G R
    go_wp2
    refine bodyPost_ret (v := .agg #[.int .i64 z1, .int .i64 z2]) (by simp [results, Tryd.results16, go_sem, *]) rfl ⟨rfl, ?_, ?_⟩
    · exact (M5.of_block ((Below.heap_setCell _ _ _ b (by simp; omega)).trans (Below.heap_setCell _ _ _ b (by simp; omega)))).mono (by omega)
    · exact T.trans ⟨rfl, rfl, rfl, by simp [World.setCell], fun j hj _ => (Below.heap_setCell _ _ _ _ (by simp; omega)).trans (Below.heap_setCell _ _ _ _ (by simp; omega))⟩
end SK
end Go.Proofs.YtfdkpcejjcifgauDoor
