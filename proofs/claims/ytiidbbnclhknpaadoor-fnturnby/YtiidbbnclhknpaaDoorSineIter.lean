/-
  The program's function that yields the terms of a row, one by one.
-/
import Derived.Test.YtiidbbnclhknpaaDoorSineTerms
import Derived.Test.YtiidbbnclhknpaaDoorRangeOwn
import Derived.Test.YtiidbbnclhknpaaDoorLoose2
import Derived.Test.YtiidbbnclhknpaaDoorQuietTail
namespace Go.Proofs.YtiidbbnclhknpaaDoor
open Go.RowKit Go.Sort Go.Shelf
set_option linter.unusedVariables false
attribute [local go_sem] Oper.semAt_some
namespace SK
/-- A closure that rounds, and the square that it keeps. -/
def isClo (R : Nat) (q : Int) (base : Nat) (u : Value) (w : World) : Prop := ∃ b c, u = .func (.func 68) #[] #[.pointer (some ⟨b, 0, none⟩), .pointer (some ⟨c, 0, none⟩)] ∧ base ≤ b ∧ base ≤ c ∧
  w.cell? ⟨b, 0, none⟩ = some (.func (.func R) #[] #[]) ∧ w.cell? ⟨c, 0, none⟩ = some (.int .i64 q)
theorem isClo.kept {R : Nat} {q : Int} {base : Nat} {u : Value} {w w' : World} (h : isClo R q base u w) (k : Below w.heap.size w w') : isClo R q base u w' := by
  obtain ⟨b, c, rfl, hb, hc, h1, h2⟩ := h
  exact ⟨b, c, rfl, hb, hc, (k.cell (cell_lt h1)).trans h1, (k.cell (cell_lt h2)).trans h2⟩
def ndC (q r : Int) (base : Nat) : Nat → Option (Act → Value → World → Prop) := fun i =>
  if i = 1 then some (fun _ u w => isClo 41 q base u w) else if i = 3 then some (fun _ u w => isClo 46 r base u w) else none
theorem ndC_local {ops : Array Oper} {q r : Int} {base : Nat} : LQ.Local ops (ndC q r base) := by
  intro j Φ oj hn hj a dst v hd
  unfold ndC at hn
  split at hn
  · cases hn; rfl
  · split at hn
    · cases hn; rfl
    · cases hn
theorem keepsC {q r : Int} {base : Nat} {w w' : World} (h : Below w.heap.size w w') : LQ.Keeps (ndC q r base) w w' := by
  intro i Φ a u hi hΦ
  unfold ndC at hi
  split at hi
  · cases hi; exact hΦ.kept h
  · split at hi
    · cases hi; exact hΦ.kept h
    · cases hi
abbrev Cl (w : World) : Nat → World → Prop := fun _ w' => ∃ p : Regrown, w' = grow (redrawn w p.d) p.os
theorem Cl.start (w : World) (n : Nat) : Cl w n { w with drawn := w.drawn + 1 } := ⟨⟨w.drawn + 1, #[]⟩, by rw [grow_empty]; rfl⟩
theorem cloD (x : Int) (w : World) (d : Nat) (os : Array Obj) (r : Int) (h0 : 0 ≤ x) (h1 : x ≤ 1000000000) :
    Calls Tryd.prog 67 #[.int .i64 x, .func (.func 41) #[] #[]] (grow (redrawn w d) os) fun e w'' => ∃ u, e = .returned u ∧ (∃ p : Regrown, w'' = grow (redrawn w p.d) p.os) ∧ isClo 41 (SI.tD x x) w.heap.size u w'' ∧ LQ.Keeps (ndC (SI.tD x x) r w.heap.size) (grow (redrawn w d) os) w'' := by
  refine (endBehindD_any x _ h0 h1).mono ?_
  rintro e w' ⟨rfl, rfl⟩
  have B0 := below_regrown w d os
  have s := B0.size
  generalize grow (redrawn w d) os = v at *
  have B := below_new2 v (.cells #[.func (.func 41) #[] #[]] 67) (.cells #[.int .i64 (SI.tD x x)] 3)
  exact ⟨_, rfl, regrown_of_below (below1 B0 B), ⟨_, _, rfl, s, by omega, by simp [go_sem], by simp [go_sem]⟩, keepsC B⟩
theorem cloU (x : Int) (w : World) (d : Nat) (os : Array Obj) (q : Int) (h0 : 0 ≤ x) (h1 : x ≤ 1000000000) :
    Calls Tryd.prog 67 #[.int .i64 x, .func (.func 46) #[] #[]] (grow (redrawn w d) os) fun e w'' => ∃ u, e = .returned u ∧ (∃ p : Regrown, w'' = grow (redrawn w p.d) p.os) ∧ isClo 46 (SI.tU x x) w.heap.size u w'' ∧ LQ.Keeps (ndC q (SI.tU x x) w.heap.size) (grow (redrawn w d) os) w'' := by
  refine (endBehindU_any x _ h0 h1).mono ?_
  rintro e w' ⟨rfl, rfl⟩
  have B0 := below_regrown w d os
  have s := B0.size
  generalize grow (redrawn w d) os = v at *
  have B := below_new2 v (.cells #[.func (.func 46) #[] #[]] 67) (.cells #[.int .i64 (SI.tU x x)] 3)
  exact ⟨_, rfl, regrown_of_below (below1 B0 B), ⟨_, _, rfl, s, by omega, by simp [go_sem], by simp [go_sem]⟩, keepsC B⟩
set_option maxHeartbeats 4000000 in
theorem terms_gives (m : Nat) (hm : 4 ≤ m) (first x n0 : Int) (f0 : 0 ≤ first) (f1 : first ≤ 1000000000) (x0 : 0 ≤ x) (x1 : x ≤ 1000000000) (hn : 1 ≤ n0) (hn2 : n0 < 40) (bx bf bn : Nat) (w : World)
    (cx : w.cell? ⟨bx, 0, none⟩ = some (.int .i64 x)) (cf : w.cell? ⟨bf, 0, none⟩ = some (.int .i64 first)) (cn : w.cell? ⟨bn, 0, none⟩ = some (.int .i64 n0)) :
    RG.Gives Fence.wide m Tryd.prog 66 #[.pointer (some ⟨bx, 0, none⟩), .pointer (some ⟨bf, 0, none⟩), .pointer (some ⟨bn, 0, none⟩)] (fun k => spV (SI.dd first x n0 (k + 1)) (SI.uu first x n0 (k + 1))) (SI.goes first x n0) w := by
  intro l J Jx W bW hJ hJx hY h0
  replace cx := (bW.cell (cell_lt cx)).trans cx
  replace cf := (bW.cell (cell_lt cf)).trans cf
  replace cn := (bW.cell (cell_lt cn)).trans cn
  clear bW
  show CallsIn _ _ _ _ #[.func (.yield l) #[] #[], .pointer (some ⟨bx, 0, none⟩), .pointer (some ⟨bf, 0, none⟩), .pointer (some ⟨bn, 0, none⟩)] _ _
  refine callsIn_of_wp Tryd.func66 rfl trivial ?_ rfl
  simp only [Tryd.ntmps66, List.size_toArray, List.length_cons, List.length_nil, Nat.reduceAdd, Nat.reduceSub, Array.replicate_succ, Array.replicate_zero, List.push_toArray, List.append_toArray, List.nil_append, List.cons_append]
  gi_wp2_with fail
  rename_i Q' K hK
  refine wpIn_wide.2 ?_
  have k0 := cell_regrown cx
  refine LQ.region (Cl W) (ndC (SI.tD x x) (SI.tU x x) W.heap.size) 4 [0, 2, 1, 3] ndC_local (by kernel_rfl) (by kernel_rfl) (fun _ _ h => h) (Cl.start W 4) ?_
  iterate 2 (refine LQ.stepD rfl rfl (fun N hN => ?_); go_simp; apply Exists.intro; refine ⟨fun _ _ _ => ?_, hN _ _ ?_⟩; exact And.intro rfl rfl; clear hN N)
  refine LQ.stepN rfl rfl (fun N hN => ?_)
  go_simp
  refine ⟨fun f p _ => ⟨rfl, cloD x W p.d p.os _ x0 x1⟩, ?_⟩
  rintro u wn hu
  refine hN _ _ ?_
  clear hN N hu wn
  refine LQ.stepN rfl rfl (fun N hN => ?_)
  go_simp
  refine ⟨fun f p _ => ⟨rfl, cloU x W p.d p.os _ x0 x1⟩, ?_⟩
  rintro u' wn hu
  refine hN _ _ ?_
  clear hN N hu wn
  refine LQ.lexEnd ?_
  rintro w4 ⟨p, rfl⟩ kn
  have cU := (kn _ (List.mem_cons_self ..)).2
  have cD := (kn _ (List.mem_cons_of_mem _ (List.mem_cons_self ..))).2
  clear kn
  simp only [List.drop]
  have B := below_regrown W p.d p.os
  generalize grow (redrawn W p.d) p.os = X at *
  go_wp2
  obtain ⟨b, c, rfl, hb, hc, e1, e2⟩ := cD
  obtain ⟨b', c', rfl, hb', hc', e3, e4⟩ := cU
  replace cf := (B.cell (cell_lt cf)).trans cf
  replace cn := (B.cell (cell_lt cn)).trans cn
  have h1 := hJ 0 _ _ h0 B
  have lb := cell_lt e1
  have lc := cell_lt e2
  have lb' := cell_lt e3
  have lc' := cell_lt e4
  have sX := B.size
  clear h0 cx k0 B
  have cn2 := (Below.cell (below_new X (.cells #[.int .i64 first, .int .i64 first] 26)) (cell_lt cn)).trans cn
  gi_wp2
  have bt := Box.new X first first 26
  have q1 := (Below.cell (below_new X (.cells #[.int .i64 first, .int .i64 first] 26)) (cell_lt e1)).trans e1
  have q2 := (Below.cell (below_new X (.cells #[.int .i64 first, .int .i64 first] 26)) (cell_lt e2)).trans e2
  have q3 := (Below.cell (below_new X (.cells #[.int .i64 first, .int .i64 first] 26)) (cell_lt e3)).trans e3
  have q4 := (Below.cell (below_new X (.cells #[.int .i64 first, .int .i64 first] 26)) (cell_lt e4)).trans e4
  have h2 := hJ 0 _ _ h1 ((below_new X (.cells #[.int .i64 first, .int .i64 first] 26)).mono sX)
  gi_loopw [8] (fun p wr => ∃ k : Nat, p = .int .i64 (SI.nn n0 k) ∧ J k wr ∧ W.heap.size ≤ wr.heap.size ∧ Box wr X.heap.size (SI.dd first x n0 k) (SI.uu first x n0 k) ∧ wr.cell? ⟨b, 0, none⟩ = some (.func (.func 41) #[] #[]) ∧ wr.cell? ⟨c, 0, none⟩ = some (.int .i64 (SI.tD x x)) ∧ wr.cell? ⟨b', 0, none⟩ = some (.func (.func 46) #[] #[]) ∧ wr.cell? ⟨c', 0, none⟩ = some (.int .i64 (SI.tU x x)))
    (fun p wr => (40 - intOf p).toNat)
  case atStart =>
    exact ⟨0, by rw [SI.nn0], h2, by simp; omega, bt, q1, q2, q3, q4⟩
  case round =>
    clear bt q1 q2 q3 q4 h1 h2 e1 e2 e3 e4
    obtain ⟨k, rfl, hj, hsz, ⟨t0, t1, t2, t3⟩, e1, e2, e3, e4⟩ := hrel
    have hn1 : 1 ≤ SI.nn n0 k := by unfold SI.nn; omega
    have T := SI.tm f0 f1 x0 x1 hn k
    obtain ⟨_, _, s1, s2, s3, s4⟩ := SI.tt_bd x0 x1 x0 x1
    by_cases g1 : SI.uu first x n0 k = 0
    · have hg : ¬ SI.goes first x n0 k := fun c => c.1 g1
      clear T s1 s2 s3 s4 hn1
      gi_wp2
      go_end0
      exact ⟨⟨_, rfl⟩, .inl ⟨k, hg, hj⟩⟩
    · by_cases g2 : SI.nn n0 k < 40
      · have hg : SI.goes first x n0 k := ⟨g1, g2⟩
        have y1 := hY k
        have nx := SI.nn_succ n0 k
        have dx := SI.dd_succ first x n0 k
        have ux := SI.uu_succ first x n0 k
        obtain ⟨d0, d1, u0, u1⟩ := T
        have N : Hide (SI.nn n0 (k + 1) = SI.nn n0 k + 2) := ⟨nx⟩
        rw [dx, ux] at y1
        have E1 : Hide (SI.dd first x n0 (k + 1) = NM.down (SI.tD (SI.dd first x n0 k) (SI.tD x x)) (SI.nn n0 k * (SI.nn n0 k + 1))) := ⟨dx⟩
        have E2 : Hide (SI.uu first x n0 (k + 1) = NM.up (SI.tU (SI.uu first x n0 k) (SI.tU x x)) (SI.nn n0 k * (SI.nn n0 k + 1))) := ⟨ux⟩
        clear nx dx ux
        generalize SI.nn n0 k = n at *
        generalize SI.dd first x n0 k = d at *
        generalize SI.uu first x n0 k = u at *
        generalize SI.tD x x = q at *
        generalize SI.tU x x = r at *
        have Z : Box wr X.heap.size d u := ⟨t0, t1, t2, t3⟩
        have c1 : ∀ e os, Calls Tryd.prog 68 #[.int .i64 d, .int .i64 n, .pointer (some ⟨b, 0, none⟩), .pointer (some ⟨c, 0, none⟩)] (grow (redrawn wr e) os) fun e w'' => e = .returned (.int .i64 (NM.down (SI.tD d q) (n * (n + 1)))) ∧ ∃ p : Regrown, w'' = grow (redrawn wr p.d) p.os := fun e os => Calls.regrown_of (behindD_any d n q b c _ d0 d1 s1 s2 hn1 g2 (cell_regrown e1 _ _) (cell_regrown e2 _ _))
        have c2 : ∀ e os, Calls Tryd.prog 68 #[.int .i64 u, .int .i64 n, .pointer (some ⟨b', 0, none⟩), .pointer (some ⟨c', 0, none⟩)] (grow (redrawn wr e) os) fun e w'' => e = .returned (.int .i64 (NM.up (SI.tU u r) (n * (n + 1)))) ∧ ∃ p : Regrown, w'' = grow (redrawn wr p.d) p.os := fun e os => Calls.regrown_of (behindU_any u n r b' c' _ u0 u1 s3 s4 hn1 g2 (cell_regrown e3 _ _) (cell_regrown e4 _ _))
        have k0 := cell_regrown t0
        have k1 := cell_regrown t1
        gi_wp2_with fail
        rename_i K hK
        refine wpIn_wide.2 ?_
        refine QT.region 11 (by kernel_rfl) (by kernel_rfl) ?_
        simp only [List.take, List.drop]
        repeat (quiet_step (fail))
        quiet_step (exact c1 _ _)
        repeat (quiet_step (fail))
        quiet_step (exact c2 _ _)
        repeat (quiet_step (fail))
        refine wpQuiet_nil ?_
        rintro _ ⟨p, rfl⟩
        have B := below_regrown wr p.d p.os
        generalize grow (redrawn wr p.d) p.os = V at *
        generalize NM.down (SI.tD d q) (n * (n + 1)) = d2 at *
        generalize NM.up (SI.tU u r) (n * (n + 1)) = u2 at *
        replace Z := Z.kept B
        have ZZ := Z.set d2 u2
        replace e1 := (B.cell (cell_lt e1)).trans e1
        replace e2 := (B.cell (cell_lt e2)).trans e2
        replace e3 := (B.cell (cell_lt e3)).trans e3
        replace e4 := (B.cell (cell_lt e4)).trans e4
        have apart : ∀ (y : Nat) (v : Value), y < X.heap.size → V.cell? ⟨y, 0, none⟩ = some v → ((V.setCell ⟨X.heap.size, 0, none⟩ (.int .i64 d2)).setCell ⟨X.heap.size, 1, none⟩ (.int .i64 u2)).cell? ⟨y, 0, none⟩ = some v := fun y v hy hv => by
          have a1 := World.cell?_of_block (w := V) (a := ⟨y, 0, none⟩) (Below.heap_setCell V ⟨X.heap.size, 0, none⟩ (.int .i64 d2) y (by simp only []; omega))
          have a2 := World.cell?_of_block (w := V.setCell ⟨X.heap.size, 0, none⟩ (.int .i64 d2)) (a := ⟨y, 0, none⟩) (Below.heap_setCell _ ⟨X.heap.size, 1, none⟩ (.int .i64 u2) y (by simp only []; omega))
          exact a2.trans (a1.trans hv)
        replace e1 := apart b _ lb e1
        replace e2 := apart c _ lc e2
        replace e3 := apart b' _ lb' e3
        replace e4 := apart c' _ lc' e4
        replace hj := hJ k _ _ hj (((B.mono hsz).setCell (p := ⟨X.heap.size, 0, none⟩) sX (.int .i64 d2)).setCell (p := ⟨X.heap.size, 1, none⟩) sX (.int .i64 u2))
        have hsz2 : W.heap.size ≤ ((V.setCell ⟨X.heap.size, 0, none⟩ (.int .i64 d2)).setCell ⟨X.heap.size, 1, none⟩ (.int .i64 u2)).heap.size := by
          have := B.size
          simp [World.setCell]
          omega
        obtain ⟨z0, z1, z2, z3⟩ := Z
        clear t0 t1 t2 t3 k0 k1 c1 c2 apart
        go_wp2
        clear z0 z1 z2 z3
        generalize (V.setCell ⟨X.heap.size, 0, none⟩ (.int .i64 d2)).setCell ⟨X.heap.size, 1, none⟩ (.int .i64 u2) = V2 at *
        have Z2 := ZZ
        obtain ⟨z0, z1, z2, z3⟩ := ZZ
        obtain ⟨fn, tmps, assign, body, hy, hR⟩ := y1 V2 hj hsz2 hg
        gi_wp2
        refine ⟨fun _ => by omega, hR.mono ?_⟩
        rintro e W3 (⟨rfl, hJ3, hk3⟩ | ⟨rfl, hJx3⟩)
        · gi_wp2
          go_roundw
          case rel =>
            have kc : ∀ (y o : Nat) (v : Value), W.heap.size ≤ y → V2.cell? ⟨y, o, none⟩ = some v → W3.cell? ⟨y, o, none⟩ = some v := fun y o v hy hv => (World.cell?_of_block (w := V2) (a := ⟨y, o, none⟩) (hk3.same y hy (cell_lt hv))).trans hv
            have kf : ∀ (y o : Nat), W.heap.size ≤ y → y < V2.heap.size → W3.frozen? ⟨y, o, none⟩ = V2.frozen? ⟨y, o, none⟩ := fun y o hy hl => World.frozen?_of_block (w := V2) (a := ⟨y, o, none⟩) (hk3.same y hy hl)
            refine ⟨k + 1, by rw [N.out], hJ3, Nat.le_trans hsz2 hk3.size, ?_, kc _ _ _ hb e1, kc _ _ _ hc e2, kc _ _ _ hb' e3, kc _ _ _ hc' e4⟩
            rw [E1.out, E2.out]
            exact ⟨kc _ _ _ sX z0, kc _ _ _ sX z1, (kf _ _ sX Z2.lt).trans z2, (kf _ _ sX Z2.lt).trans z3⟩
          case measure => simp [intOf]; omega
        · gi_wp2
          refine bodyPost_ret (results_none rfl _ _ _) rfl ?_
          exact ⟨⟨_, rfl⟩, .inr hJx3⟩
      · have hg : ¬ SI.goes first x n0 k := fun c => g2 c.2
        clear T s1 s2 s3 s4
        gi_wp2
        go_end0
        exact ⟨⟨_, rfl⟩, .inl ⟨k, hg, hj⟩⟩
end SK
end Go.Proofs.YtiidbbnclhknpaaDoor
