/-
  The program's SpotSquare, SpotDist and SpotNear, by sines that a map keeps.
-/
import Derived.Test.YtfdkpcejjcifgauDoorSpotMemo2
import Derived.Test.YtfdkpcejjcifgauDoorBackImpl
import Derived.Test.YtfdkpcejjcifgauDoorSpanWalks4
import Derived.Test.YtfdkpcejjcifgauDoorSureWalks
import Derived.Test.YtfdkpcejjcifgauDoorSpotWalks4
namespace Go.Proofs.YtfdkpcejjcifgauDoor
open Go.RowKit Go.Sort Go.Maps
set_option linter.unusedVariables false
namespace SK
theorem memo_made (w : World) : Memo (w.alloc (.map #[] 0)) w.heap.size 0 := ⟨_, World.ownsMap_made _ _ _ _, fun h hh => by cases hh⟩
theorem none_local {ops : Array Oper} : LQ.Local ops (fun _ => none) := by
  intro j Φ oj hn
  cases hn
theorem none_keeps {w w' : World} : LQ.Keeps (fun _ => none) w w' := by
  intro i Φ a u hn
  cases hn
theorem askM1_any (x m : Int) (b n c c' : Nat) (w : World) (M : Memo w b n) (hn : n ≤ 900) (ne : c ≠ b) (ne' : c' ≠ b) (hc : w.cell? ⟨c, 0, none⟩ = some (.func (.func 18) #[.map (some b)] #[])) (hd : w.cell? ⟨c', 0, none⟩ = some (.int .i64 x)) (m0 : -32400000 ≤ m) (m1 : m ≤ 32400000) :
    Calls Tryd.prog 45 #[.int .i64 m, .pointer (some ⟨c, 0, none⟩), .pointer (some ⟨c', 0, none⟩)] w fun e w' => e = .returned (.bool (decide (SI.siH (2 * m) ≤ x))) ∧ Memo w' b (n + 8) ∧ DK.Tch b w.heap.size w w' := by
  have S := fun w n M hn => memo_any (2 * m) b n w M hn (by omega) (by omega)
  generalize SI.siL (2 * m) = p at *
  generalize SI.siH (2 * m) = q at *
  have fl0 := field0
  have fl1 := field1
  have v1 : IntKind.i64.wrap (2 * m) = 2 * m := wrap_id (by omega) (by omega)
  have x0 : ∀ f (q : Mw b (n + 7) w f), q.w.cell? ⟨c, 0, none⟩ = some (.func (.func 18) #[.map (some b)] #[]) := fun f q => (q.tc.cell (cell_lt hc) ne).trans hc
  have x1 : ∀ f (q : Mw b (n + 7) w f), q.w.cell? ⟨c', 0, none⟩ = some (.int .i64 x) := fun f q => (q.tc.cell (cell_lt hd) ne').trans hd
  have kp : ∀ v v', DK.Tch b v.heap.size v v' → LQ.Keeps (fun _ => none) v v' := fun _ _ _ => none_keeps
  go_enter Tryd.func45, Tryd.ntmps45
  go_wp2_with fail
  refine LQ.region (Cm b (n + 7) w) (fun _ => none) 7 [0, 1, 2, 3, 4, 5, 6] none_local (by kernel_rfl) (by kernel_rfl) Cm.mono (Cm.start 7 M) ?_
  iterate 3 (refine LQ.stepD rfl rfl (fun N hN => ?_); go_simp; apply Exists.intro; refine ⟨fun _ _ _ => ?_, hN _ _ ?_⟩; exact And.intro rfl rfl; clear hN N)
  refine LQ.stepD rfl rfl (fun N hN => ?_)
  go_simp
  apply Exists.intro
  refine ⟨fun f q _ => And.intro rfl ?_, hN _ _ ?_⟩
  exact memo_loose q (by omega) kp fun n' hn' M' => S _ n' M' (by omega)
  clear hN N
  iterate 3 (refine LQ.stepD rfl rfl (fun N hN => ?_); go_simp; apply Exists.intro; refine ⟨fun _ _ _ => ?_, hN _ _ ?_⟩; exact And.intro rfl rfl; clear hN N)
  refine LQ.lexEnd ?_
  rintro w2 ⟨r, rfl⟩ kn
  clear kn x0 x1 kp
  obtain ⟨n2, M2, hn2⟩ := r.me
  have T := r.tc
  generalize r.w = w2 at *
  simp only [List.drop]
  go_wp2
  go_ret
  exact ⟨rfl, M2.mono (by omega), T⟩
theorem askM2_any (x m : Int) (b n c c' : Nat) (w : World) (M : Memo w b n) (hn : n ≤ 900) (ne : c ≠ b) (ne' : c' ≠ b) (hc : w.cell? ⟨c, 0, none⟩ = some (.func (.func 18) #[.map (some b)] #[])) (hd : w.cell? ⟨c', 0, none⟩ = some (.int .i64 x)) (m0 : -32400000 ≤ m) (m1 : m ≤ 32400000) :
    Calls Tryd.prog 47 #[.int .i64 m, .pointer (some ⟨c, 0, none⟩), .pointer (some ⟨c', 0, none⟩)] w fun e w' => e = .returned (.bool (decide (SI.siL (2 * m) < x))) ∧ Memo w' b (n + 8) ∧ DK.Tch b w.heap.size w w' := by
  have S := fun w n M hn => memo_any (2 * m) b n w M hn (by omega) (by omega)
  generalize SI.siL (2 * m) = p at *
  generalize SI.siH (2 * m) = q at *
  have fl0 := field0
  have fl1 := field1
  have v1 : IntKind.i64.wrap (2 * m) = 2 * m := wrap_id (by omega) (by omega)
  have x0 : ∀ f (q : Mw b (n + 7) w f), q.w.cell? ⟨c, 0, none⟩ = some (.func (.func 18) #[.map (some b)] #[]) := fun f q => (q.tc.cell (cell_lt hc) ne).trans hc
  have x1 : ∀ f (q : Mw b (n + 7) w f), q.w.cell? ⟨c', 0, none⟩ = some (.int .i64 x) := fun f q => (q.tc.cell (cell_lt hd) ne').trans hd
  have kp : ∀ v v', DK.Tch b v.heap.size v v' → LQ.Keeps (fun _ => none) v v' := fun _ _ _ => none_keeps
  go_enter Tryd.func47, Tryd.ntmps47
  go_wp2_with fail
  refine LQ.region (Cm b (n + 7) w) (fun _ => none) 7 [0, 1, 2, 3, 4, 5, 6] none_local (by kernel_rfl) (by kernel_rfl) Cm.mono (Cm.start 7 M) ?_
  iterate 3 (refine LQ.stepD rfl rfl (fun N hN => ?_); go_simp; apply Exists.intro; refine ⟨fun _ _ _ => ?_, hN _ _ ?_⟩; exact And.intro rfl rfl; clear hN N)
  refine LQ.stepD rfl rfl (fun N hN => ?_)
  go_simp
  apply Exists.intro
  refine ⟨fun f q _ => And.intro rfl ?_, hN _ _ ?_⟩
  exact memo_loose q (by omega) kp fun n' hn' M' => S _ n' M' (by omega)
  clear hN N
  iterate 3 (refine LQ.stepD rfl rfl (fun N hN => ?_); go_simp; apply Exists.intro; refine ⟨fun _ _ _ => ?_, hN _ _ ?_⟩; exact And.intro rfl rfl; clear hN N)
  refine LQ.lexEnd ?_
  rintro w2 ⟨r, rfl⟩ kn
  clear kn x0 x1 kp
  obtain ⟨n2, M2, hn2⟩ := r.me
  have T := r.tc
  generalize r.w = w2 at *
  simp only [List.drop]
  go_wp2
  go_ret
  exact ⟨rfl, M2.mono (by omega), T⟩
/-- A world behind 'w' in which the two captured variables stand, and the map is kept. -/
structure Km (w : World) (x : Int) (b n : Nat) (k : Nat) (w' : World) : Prop where
  t : DK.Tch b w.heap.size w w'
  m : ∃ c, Memo w' b c ∧ c + 8 * k ≤ n + 216
  c0 : w'.cell? ⟨w.heap.size, 0, none⟩ = some (.int .i64 x)
  c1 : w'.cell? ⟨w.heap.size + 1, 0, none⟩ = some (.func (.func 18) #[.map (some b)] #[])
theorem Km.new {w : World} {b n : Nat} (M : Memo w b n) (x : Int) (t u : TypeId) : Km w x b n 27 ((w.alloc (.cells #[.int .i64 x] t)).alloc (.cells #[.func (.func 18) #[.map (some b)] #[]] u)) :=
  ⟨DK.Tch.ofBelow (below_new2 _ _ _), ⟨n, (M.alloc _).alloc _, by omega⟩, by simp [go_sem], by simp [go_sem]⟩
theorem Km.mono {w : World} {x : Int} {b n : Nat} : ∀ k w', Km w x b n (k + 1) w' → Km w x b n k w' := fun k w' h => ⟨h.t, (let ⟨c, h1, h2⟩ := h.m; ⟨c, h1, by omega⟩), h.c0, h.c1⟩
theorem Km.next {w w1 w2 : World} {x : Int} {b n k c : Nat} (h : Km w x b n (k + 1) w1) (hb : b < w.heap.size) (hc : c + 8 * (k + 1) ≤ n + 216) (M : Memo w2 b (c + 8)) (t : DK.Tch b w1.heap.size w1 w2) : Km w x b n k w2 :=
  ⟨h.t.trans (t.mono h.t.size), ⟨_, M, by omega⟩, (t.cell (cell_lt h.c0) (by omega)).trans h.c0, (t.cell (cell_lt h.c1) (by omega)).trans h.c1⟩
theorem backLowM_any (x : Int) (b n : Nat) (w : World) (M : Memo w b n) (hn : n ≤ 600) : Calls Tryd.prog 17 #[.int .i64 x, .func (.func 18) #[.map (some b)] #[]] w fun e w' => e = .returned (.int .i64 (SI.sbL x)) ∧ Memo w' b (n + 216) ∧ DK.Tch b w.heap.size w w' := by
  have hb := M.lt
  exact (backLow_any x _ _ _ w (Km w x b n) Km.mono (fun m k w' m0 m1 h => by
    obtain ⟨c, Mc, hc⟩ := h.m
    exact (askM1_any x m b c _ _ w' Mc (by omega) (by omega) (by omega) h.c1 h.c0 m0 m1).mono fun _ _ ⟨h1, h2, h3⟩ => ⟨h1, h.next hb hc h2 h3⟩) (Km.new M x _ _)).mono fun _ _ ⟨h1, h2⟩ => ⟨h1, (let ⟨c, h3, h4⟩ := h2.m; h3.mono (by omega)), h2.t⟩
theorem backHighM_any (x : Int) (b n : Nat) (w : World) (M : Memo w b n) (hn : n ≤ 600) : Calls Tryd.prog 19 #[.int .i64 x, .func (.func 18) #[.map (some b)] #[]] w fun e w' => e = .returned (.int .i64 (SI.sbH x)) ∧ Memo w' b (n + 216) ∧ DK.Tch b w.heap.size w w' := by
  have hb := M.lt
  exact (backHigh_any x _ _ _ w (Km w x b n) Km.mono (fun m k w' m0 m1 h => by
    obtain ⟨c, Mc, hc⟩ := h.m
    exact (askM2_any x m b c _ _ w' Mc (by omega) (by omega) (by omega) h.c1 h.c0 m0 m1).mono fun _ _ ⟨h1, h2, h3⟩ => ⟨h1, h.next hb hc h2 h3⟩) (Km.new M x _ _)).mono fun _ _ ⟨h1, h2⟩ => ⟨h1, (let ⟨c, h3, h4⟩ := h2.m; h3.mono (by omega)), h2.t⟩
set_option maxHeartbeats 4000000 in
theorem spotDist_any (a l b m : Int) (sa : Addr) (w : World) (hs : SW.Sn sa w) : Calls Tryd.prog 7 #[spV a l, spV b m] w fun e w' => e = .returned (.tuple #[spV (SM.sel (okP a l && okP b m) (SI.dsL a l b m)) (SM.sel (okP a l && okP b m) (SI.dsH a l b m)), .bool (okP a l && okP b m)]) ∧ Below w.heap.size w w' := by
  have P := ((Box.new w a l 28).alloc (.cells #[.int .i64 b, .int .i64 m] 28)).alloc (.cells #[.int .i64 0, .int .i64 0] 25)
  have Q := (Box.new2 w (.cells #[.int .i64 a, .int .i64 l] 28) b m 28).alloc (.cells #[.int .i64 0, .int .i64 0] 25)
  have R : Box (((w.alloc (.cells #[.int .i64 a, .int .i64 l] 28)).alloc (.cells #[.int .i64 b, .int .i64 m] 28)).alloc (.cells #[.int .i64 0, .int .i64 0] 25)) (w.heap.size + 1 + 1) 0 0 := by simpa using Box.new ((w.alloc (.cells #[.int .i64 a, .int .i64 l] 28)).alloc (.cells #[.int .i64 b, .int .i64 m] 28)) 0 0 25
  have B := below1 (below_new2 w (.cells #[.int .i64 a, .int .i64 l] 28) (.cells #[.int .i64 b, .int .i64 m] 28)) (below_new _ (.cells #[.int .i64 0, .int .i64 0] 25))
  have K1 := fun w => spotOk_any a l w
  have K2 := fun w => spotOk_any b m w
  cases h1 : okP a l
  · rw [h1] at K1
    rw [Bool.false_and]
    simp only [SM.sel]
    go_enter Tryd.func7, Tryd.ntmps7
    have ⟨P0, P1, P2, P3⟩ := P
    have ⟨Q0, Q1, Q2, Q3⟩ := Q
    have ⟨R0, R1, R2, R3⟩ := R
    go_wp2_with fail
    refine (K1 _).mono ?_
    rintro e w1 ⟨rfl, Bx⟩
    clear P0 P1 P2 P3 Q0 Q1 Q2 Q3 R0 R1 R2 R3
    replace P := P.kept Bx
    replace Q := Q.kept Bx
    replace R := R.kept Bx
    replace B := below1 B Bx
    clear Bx
    have ⟨R0, R1, R2, R3⟩ := R
    go_wp2
    refine bodyPost_ret (v := .tuple #[.agg #[.int .i64 0, .int .i64 0], .bool false]) (by simp [results, Tryd.results7, go_sem, *]) rfl ⟨rfl, ?_⟩
    exact below_set2 B (by omega) _ _
  · rw [h1] at K1
    cases h2 : okP b m
    · rw [h2] at K2
      rw [Bool.and_false]
      simp only [SM.sel]
      go_enter Tryd.func7, Tryd.ntmps7
      have ⟨P0, P1, P2, P3⟩ := P
      have ⟨Q0, Q1, Q2, Q3⟩ := Q
      have ⟨R0, R1, R2, R3⟩ := R
      go_wp2_with fail
      refine (K1 _).mono ?_
      rintro e w1 ⟨rfl, Bx⟩
      clear P0 P1 P2 P3 Q0 Q1 Q2 Q3 R0 R1 R2 R3
      replace P := P.kept Bx
      replace Q := Q.kept Bx
      replace R := R.kept Bx
      replace B := below1 B Bx
      clear Bx
      have ⟨P0, P1, P2, P3⟩ := P
      have ⟨Q0, Q1, Q2, Q3⟩ := Q
      have ⟨R0, R1, R2, R3⟩ := R
      go_wp2_with fail
      refine (K2 _).mono ?_
      rintro e w2 ⟨rfl, Bx⟩
      clear P0 P1 P2 P3 Q0 Q1 Q2 Q3 R0 R1 R2 R3
      replace P := P.kept Bx
      replace Q := Q.kept Bx
      replace R := R.kept Bx
      replace B := below1 B Bx
      clear Bx
      have ⟨R0, R1, R2, R3⟩ := R
      go_wp2
      refine bodyPost_ret (v := .tuple #[.agg #[.int .i64 0, .int .i64 0], .bool false]) (by simp [results, Tryd.results7, go_sem, *]) rfl ⟨rfl, ?_⟩
      exact below_set2 B (by omega) _ _
    · rw [h2] at K2
      rw [Bool.true_and]
      simp only [SM.sel]
      obtain ⟨⟨a0, a1⟩, l0, l1⟩ := okP_of h1
      obtain ⟨⟨b0, b1⟩, m0, m1⟩ := okP_of h2
      have sb := SI.sq_bd a l b m
      have sle := SI.sq_le a l b m
      have rb : SM.rootB (SI.sqL a l b m) (SI.sqH a l b m) = true := SM.root_mk (SM.okS_mk (by omega)) sb.1
      have KQ := fun w c n M hn => msquare_any a l b m c n w M hn a0 a1 l0 l1 b0 b1 m0 m1
      have KR : ∀ w, SW.Sn sa w → Calls Tryd.prog 15 #[spV (SI.sqL a l b m) (SI.sqH a l b m)] w fun e w' => e = .returned (.tuple #[spV (SM.rtLo (SI.sqL a l b m)) (SM.rtHi (SI.sqH a l b m)), .bool true]) ∧ Below w.heap.size w w' := fun w hs => by have := SW.spanRoot_any (SI.sqL a l b m) (SI.sqH a l b m) sa w hs; rw [rb] at this; exact this
      have r1 := SI.rt_bd sb.1
      have r2 := SI.rt_bd (show 0 ≤ SI.sqH a l b m by omega)
      have eL : SI.dsL a l b m = max (2 * SI.sbL (min (SM.rtLo (SI.sqL a l b m)) 1000000000)) 0 := rfl
      have eH : SI.dsH a l b m = 2 * SI.sbH (min (SM.rtHi (SI.sqH a l b m)) 1000000000) := rfl
      obtain ⟨_, _, z1, z2, z3, z4⟩ := SI.sb_of (x := min (SM.rtLo (SI.sqL a l b m)) 1000000000) (by omega) (by omega)
      obtain ⟨_, _, z5, z6, z7, z8⟩ := SI.sb_of (x := min (SM.rtHi (SI.sqH a l b m)) 1000000000) (by omega) (by omega)
      have KL := fun w c n M hn => backLowM_any (min (SM.rtLo (SI.sqL a l b m)) 1000000000) c n w M hn
      have KH := fun w c n M hn => backHighM_any (min (SM.rtHi (SI.sqH a l b m)) 1000000000) c n w M hn
      rw [eL, eH]
      clear eL eH rb sb sle r1 r2 z3 z4 z5 z6
      generalize SI.sbL (min (SM.rtLo (SI.sqL a l b m)) 1000000000) = p at *
      generalize SI.sbH (min (SM.rtHi (SI.sqH a l b m)) 1000000000) = q at *
      generalize SM.rtLo (SI.sqL a l b m) = r1 at *
      generalize SM.rtHi (SI.sqH a l b m) = r2 at *
      generalize SI.sqL a l b m = s1 at *
      generalize SI.sqH a l b m = s2 at *
      have hmm := @run_makeMap Tryd.prog
      have hmf : ∀ (fn : Fn) (first cap : Array Value) (w : World), (Instr.makeFunc fn first cap).run Tryd.prog w = .ok (.func fn first cap) w := fun _ _ _ _ => rfl
      go_enter Tryd.func7, Tryd.ntmps7
      have ⟨P0, P1, P2, P3⟩ := P
      have ⟨Q0, Q1, Q2, Q3⟩ := Q
      have ⟨R0, R1, R2, R3⟩ := R
      go_wp2_with fail
      refine (K1 _).mono ?_
      rintro e w1 ⟨rfl, Bx⟩
      clear P0 P1 P2 P3 Q0 Q1 Q2 Q3 R0 R1 R2 R3
      replace P := P.kept Bx
      replace Q := Q.kept Bx
      replace R := R.kept Bx
      replace B := below1 B Bx
      clear Bx
      have ⟨P0, P1, P2, P3⟩ := P
      have ⟨Q0, Q1, Q2, Q3⟩ := Q
      have ⟨R0, R1, R2, R3⟩ := R
      go_wp2_with fail
      refine (K2 _).mono ?_
      rintro e w2 ⟨rfl, Bx⟩
      clear P0 P1 P2 P3 Q0 Q1 Q2 Q3 R0 R1 R2 R3
      replace P := P.kept Bx
      replace Q := Q.kept Bx
      replace R := R.kept Bx
      replace B := below1 B Bx
      clear Bx
      have hs2 := B.size
      have hR := R.lt
      have ⟨P0, P1, P2, P3⟩ := P.alloc (.map #[] 0)
      have ⟨Q0, Q1, Q2, Q3⟩ := Q.alloc (.map #[] 0)
      go_wp2_with fail
      refine (KQ _ _ 0 (memo_made w2) (by omega)).mono ?_
      rintro e w3 ⟨rfl, M3, T3⟩
      replace R := tchBox (R.alloc (.map #[] 0)) T3 (by omega)
      replace B := (below1 B (below_new w2 (.map #[] 0))).trans (T3.toBelow (by simp; omega) (by omega))
      have hb3 := M3.lt
      clear P0 P1 P2 P3 Q0 Q1 Q2 Q3 T3 P Q KQ K1 K2 h1 h2
      generalize w2.heap.size = bm at *
      go_wp2_with fail
      refine (KR _ (hs.kept B)).mono ?_
      rintro e w4 ⟨rfl, B4⟩
      replace R := (R.kept B4).alloc (.cells #[.int .i64 r1, .int .i64 r2] 34)
      replace M3 := (M3.kept B4).alloc (.cells #[.int .i64 r1, .int .i64 r2] 34)
      have S := Box.new w4 r1 r2 34
      replace B := below1 (below1 B B4) (below_new w4 (.cells #[.int .i64 r1, .int .i64 r2] 34))
      have hw4 := B4.size
      clear B4 KR
      have hs4 := B.size
      have ⟨S0, S1, S2, S3⟩ := S
      go_wp2_with fail
      refine (KL _ _ _ M3 (by omega)).mono ?_
      rintro e w5 ⟨rfl, M5, T5⟩
      clear S0 S1 S2 S3
      replace R := tchBox R T5 (by omega)
      replace S := tchBox S T5 (by omega)
      replace B := B.trans (T5.toBelow hs4 (by omega))
      clear T5 M3 KL
      have hs5 := B.size
      have ⟨S0, S1, S2, S3⟩ := S
      go_wp2_with fail
      refine (KH _ _ _ M5 (by omega)).mono ?_
      rintro e w6 ⟨rfl, M6, T6⟩
      clear S0 S1 S2 S3
      obtain ⟨R0, R1, R2, R3⟩ := tchBox R T6 (by omega)
      replace B := B.trans (T6.toBelow hs5 (by omega))
      clear T6 M5 M6 KH S R
      go_wp2
      refine bodyPost_ret (v := .tuple #[.agg #[.int .i64 (max (2 * p) 0), .int .i64 (2 * q)], .bool true]) (by simp [results, Tryd.results7, go_sem, *]) rfl ⟨rfl, ?_⟩
      exact below_set2 B (by omega) _ _
end SK
end Go.Proofs.YtfdkpcejjcifgauDoor
