/-
  Texts of chapter 21, laid as one.
-/
import Derived.Test.YtfdkpcejjcifganDoorSpotMemo2
import Derived.Test.YtfdkpcejjcifganDoorBackImpl
import Derived.Test.YtfdkpcejjcifganDoorSpanWalks4
import Derived.Test.YtfdkpcejjcifganDoorSureWalks
import Derived.Test.YtfdkpcejjcifganDoorSpotWalks4
namespace Go.Proofs.YtfdkpcejjcifganDoor
open Go.RowKit Go.Sort Go.Maps
set_option linter.unusedVariables false
namespace SK
theorem memo_made (w : World) : Memo (w.alloc (.map #[] 0)) w.heap.size 0 := ⟨_, World.ownsMap_made _ _ _ _, fun h hh => by cases hh⟩
theorem none_local {ops : Array Oper} : LQ.Local ops (fun _ => none) := by
  intro j Φ oj hn
  cases hn
theorem none_keeps {w w' : World} : LQ.Keeps (fun _ => none) w w' := by
  intro i Φ a u hn
  cases hn
theorem askM1_any (x m : Int) (b n c c' : Nat) (w : World) (M : Memo w b n) (hn : n ≤ 900) (ne : c ≠ b) (ne' : c' ≠ b) (hc : w.cell? ⟨c, 0, none⟩ = some (.func (.func 22) #[.map (some b)] #[])) (hd : w.cell? ⟨c', 0, none⟩ = some (.int .i64 x)) (m0 : -32400000 ≤ m) (m1 : m ≤ 32400000) :
    Calls Tryd.prog 47 #[.int .i64 m, .pointer (some ⟨c, 0, none⟩), .pointer (some ⟨c', 0, none⟩)] w fun e w' => e = .returned (.bool (decide (SI.siH (2 * m) ≤ x))) ∧ Memo w' b (n + 8) ∧ DK.Tch b w.heap.size w w' := by
  have S := fun w n M hn => memo_any (2 * m) b n w M hn (by omega) (by omega)
  generalize SI.siL (2 * m) = p at *
  generalize SI.siH (2 * m) = q at *
  have fl0 := field0
  have fl1 := field1
  have v1 : IntKind.i64.wrap (2 * m) = 2 * m := wrap_id (by omega) (by omega)
  have x0 : ∀ f (q : Mw b (n + 7) w f), q.w.cell? ⟨c, 0, none⟩ = some (.func (.func 22) #[.map (some b)] #[]) := fun f q => (q.tc.cell (cell_lt hc) ne).trans hc
  have x1 : ∀ f (q : Mw b (n + 7) w f), q.w.cell? ⟨c', 0, none⟩ = some (.int .i64 x) := fun f q => (q.tc.cell (cell_lt hd) ne').trans hd
  have kp : ∀ v v', DK.Tch b v.heap.size v v' → LQ.Keeps (fun _ => none) v v' := fun _ _ _ => none_keeps
  go_enter Tryd.func47, Tryd.ntmps47
  go_wp2_with fail
  refine LQ.region (Cm b (n + 7) w) (fun _ => none) 7 [0, 1, 2, 3, 4, 5, 6] none_local (by kernel_rfl) (by kernel_rfl) Cm.mono (Cm.start 7 M) ?_
  iterate 3 (refine LQ.stepD rfl rfl (fun N hN => ?_); go_simp; apply Exists.intro; refine ⟨fun _ _ _ => ?_, hN _ _ ?_⟩; exact And.intro rfl rfl; clear hN N)
  refine LQ.stepD rfl rfl (fun N hN => ?_)
  go_simp
  apply Exists.intro
  refine ⟨fun f q _ => And.intro rfl ?_, hN _ _ ?_⟩
  exact memo_loose q (by omega) kp fun n' hn' M' => S _ n' M' (by omega)
  clear hN N
  iterate 3 (refine LQ.stepD rfl rfl (fun N hN => ?_); go_simp; apply Exists.intro; refine ⟨fun _ _ _ => ?_, hN _ _ ?_⟩; exact And.intro rfl rfl; clear hN N)
  refine LQ.lexEnd ?_
  rintro w2 ⟨r, rfl⟩ kn
  clear kn x0 x1 kp
  obtain ⟨n2, M2, hn2⟩ := r.me
  have T := r.tc
  generalize r.w = w2 at *
  simp only [List.drop]
  go_wp2
  go_ret
  exact ⟨rfl, M2.mono (by omega), T⟩
theorem askM2_any (x m : Int) (b n c c' : Nat) (w : World) (M : Memo w b n) (hn : n ≤ 900) (ne : c ≠ b) (ne' : c' ≠ b) (hc : w.cell? ⟨c, 0, none⟩ = some (.func (.func 22) #[.map (some b)] #[])) (hd : w.cell? ⟨c', 0, none⟩ = some (.int .i64 x)) (m0 : -32400000 ≤ m) (m1 : m ≤ 32400000) :
    Calls Tryd.prog 49 #[.int .i64 m, .pointer (some ⟨c, 0, none⟩), .pointer (some ⟨c', 0, none⟩)] w fun e w' => e = .returned (.bool (decide (SI.siL (2 * m) < x))) ∧ Memo w' b (n + 8) ∧ DK.Tch b w.heap.size w w' := by
  have S := fun w n M hn => memo_any (2 * m) b n w M hn (by omega) (by omega)
  generalize SI.siL (2 * m) = p at *
  generalize SI.siH (2 * m) = q at *
  have fl0 := field0
  have fl1 := field1
  have v1 : IntKind.i64.wrap (2 * m) = 2 * m := wrap_id (by omega) (by omega)
  have x0 : ∀ f (q : Mw b (n + 7) w f), q.w.cell? ⟨c, 0, none⟩ = some (.func (.func 22) #[.map (some b)] #[]) := fun f q => (q.tc.cell (cell_lt hc) ne).trans hc
  have x1 : ∀ f (q : Mw b (n + 7) w f), q.w.cell? ⟨c', 0, none⟩ = some (.int .i64 x) := fun f q => (q.tc.cell (cell_lt hd) ne').trans hd
  have kp : ∀ v v', DK.Tch b v.heap.size v v' → LQ.Keeps (fun _ => none) v v' := fun _ _ _ => none_keeps
  go_enter Tryd.func49, Tryd.ntmps49
  go_wp2_with fail
  refine LQ.region (Cm b (n + 7) w) (fun _ => none) 7 [0, 1, 2, 3, 4, 5, 6] none_local (by kernel_rfl) (by kernel_rfl) Cm.mono (Cm.start 7 M) ?_
  iterate 3 (refine LQ.stepD rfl rfl (fun N hN => ?_); go_simp; apply Exists.intro; refine ⟨fun _ _ _ => ?_, hN _ _ ?_⟩; exact And.intro rfl rfl; clear hN N)
  refine LQ.stepD rfl rfl (fun N hN => ?_)
  go_simp
  apply Exists.intro
  refine ⟨fun f q _ => And.intro rfl ?_, hN _ _ ?_⟩
  exact memo_loose q (by omega) kp fun n' hn' M' => S _ n' M' (by omega)
  clear hN N
  iterate 3 (refine LQ.stepD rfl rfl (fun N hN => ?_); go_simp; apply Exists.intro; refine ⟨fun _ _ _ => ?_, hN _ _ ?_⟩; exact And.intro rfl rfl; clear hN N)
  refine LQ.lexEnd ?_
  rintro w2 ⟨r, rfl⟩ kn
  clear kn x0 x1 kp
  obtain ⟨n2, M2, hn2⟩ := r.me
  have T := r.tc
  generalize r.w = w2 at *
  simp only [List.drop]
  go_wp2
  go_ret
  exact ⟨rfl, M2.mono (by omega), T⟩
/-- A world behind 'w' in which the two captured variables stand, and the map is kept. -/
structure Km (w : World) (x : Int) (b n : Nat) (k : Nat) (w' : World) : Prop where
  t : DK.Tch b w.heap.size w w'
  m : ∃ c, Memo w' b c ∧ c + 8 * k ≤ n + 216
  c0 : w'.cell? ⟨w.heap.size, 0, none⟩ = some (.int .i64 x)
  c1 : w'.cell? ⟨w.heap.size + 1, 0, none⟩ = some (.func (.func 22) #[.map (some b)] #[])
theorem Km.new {w : World} {b n : Nat} (M : Memo w b n) (x : Int) (t u : TypeId) : Km w x b n 27 ((w.alloc (.cells #[.int .i64 x] t)).alloc (.cells #[.func (.func 22) #[.map (some b)] #[]] u)) :=
  ⟨DK.Tch.ofBelow (below_new2 _ _ _), ⟨n, (M.alloc _).alloc _, by omega⟩, by simp [go_sem], by simp [go_sem]⟩
theorem Km.mono {w : World} {x : Int} {b n : Nat} : ∀ k w', Km w x b n (k + 1) w' → Km w x b n k w' := fun k w' h => ⟨h.t, (let ⟨c, h1, h2⟩ := h.m; ⟨c, h1, by omega⟩), h.c0, h.c1⟩
theorem Km.next {w w1 w2 : World} {x : Int} {b n k c : Nat} (h : Km w x b n (k + 1) w1) (hb : b < w.heap.size) (hc : c + 8 * (k + 1) ≤ n + 216) (M : Memo w2 b (c + 8)) (t : DK.Tch b w1.heap.size w1 w2) : Km w x b n k w2 :=
  ⟨h.t.trans (t.mono h.t.size), ⟨_, M, by omega⟩, (t.cell (cell_lt h.c0) (by omega)).trans h.c0, (t.cell (cell_lt h.c1) (by omega)).trans h.c1⟩
theorem backLowM_any (x : Int) (b n : Nat) (w : World) (M : Memo w b n) (hn : n ≤ 600) : Calls Tryd.prog 21 #[.int .i64 x, .func (.func 22) #[.map (some b)] #[]] w fun e w' => e = .returned (.int .i64 (SI.sbL x)) ∧ Memo w' b (n + 216) ∧ DK.Tch b w.heap.size w w' := by
  have hb := M.lt
  exact (backLow_any x _ _ _ w (Km w x b n) Km.mono (fun m k w' m0 m1 h => by
    obtain ⟨c, Mc, hc⟩ := h.m
    exact (askM1_any x m b c _ _ w' Mc (by omega) (by omega) (by omega) h.c1 h.c0 m0 m1).mono fun _ _ ⟨h1, h2, h3⟩ => ⟨h1, h.next hb hc h2 h3⟩) (Km.new M x _ _)).mono fun _ _ ⟨h1, h2⟩ => ⟨h1, (let ⟨c, h3, h4⟩ := h2.m; h3.mono (by omega)), h2.t⟩
theorem backHighM_any (x : Int) (b n : Nat) (w : World) (M : Memo w b n) (hn : n ≤ 600) : Calls Tryd.prog 23 #[.int .i64 x, .func (.func 22) #[.map (some b)] #[]] w fun e w' => e = .returned (.int .i64 (SI.sbH x)) ∧ Memo w' b (n + 216) ∧ DK.Tch b w.heap.size w w' := by
  have hb := M.lt
  exact (backHigh_any x _ _ _ w (Km w x b n) Km.mono (fun m k w' m0 m1 h => by
    obtain ⟨c, Mc, hc⟩ := h.m
    exact (askM2_any x m b c _ _ w' Mc (by omega) (by omega) (by omega) h.c1 h.c0 m0 m1).mono fun _ _ ⟨h1, h2, h3⟩ => ⟨h1, h.next hb hc h2 h3⟩) (Km.new M x _ _)).mono fun _ _ ⟨h1, h2⟩ => ⟨h1, (let ⟨c, h3, h4⟩ := h2.m; h3.mono (by omega)), h2.t⟩
set_option maxHeartbeats 4000000 in
theorem spotDist_any (a l b m : Int) (sa : Addr) (w : World) (hs : SW.Sn sa w) : Calls Tryd.prog 8 #[spV a l, spV b m] w fun e w' => e = .returned (.tuple #[spV (SM.sel (okP a l && okP b m) (SI.dsL a l b m)) (SM.sel (okP a l && okP b m) (SI.dsH a l b m)), .bool (okP a l && okP b m)]) ∧ Below w.heap.size w w' := by
  have P := ((Box.new w a l 24).alloc (.cells #[.int .i64 b, .int .i64 m] 24)).alloc (.cells #[.int .i64 0, .int .i64 0] 30)
  have Q := (Box.new2 w (.cells #[.int .i64 a, .int .i64 l] 24) b m 24).alloc (.cells #[.int .i64 0, .int .i64 0] 30)
  have R : Box (((w.alloc (.cells #[.int .i64 a, .int .i64 l] 24)).alloc (.cells #[.int .i64 b, .int .i64 m] 24)).alloc (.cells #[.int .i64 0, .int .i64 0] 30)) (w.heap.size + 1 + 1) 0 0 := by simpa using Box.new ((w.alloc (.cells #[.int .i64 a, .int .i64 l] 24)).alloc (.cells #[.int .i64 b, .int .i64 m] 24)) 0 0 30
  have B := below1 (below_new2 w (.cells #[.int .i64 a, .int .i64 l] 24) (.cells #[.int .i64 b, .int .i64 m] 24)) (below_new _ (.cells #[.int .i64 0, .int .i64 0] 30))
  have K1 := fun w => spotOk_any a l w
  have K2 := fun w => spotOk_any b m w
  cases h1 : okP a l
  · rw [h1] at K1
    rw [Bool.false_and]
    simp only [SM.sel]
    go_enter Tryd.func8, Tryd.ntmps8
    have ⟨P0, P1, P2, P3⟩ := P
    have ⟨Q0, Q1, Q2, Q3⟩ := Q
    have ⟨R0, R1, R2, R3⟩ := R
    go_wp2_with fail
    refine (K1 _).mono ?_
    rintro e w1 ⟨rfl, Bx⟩
    clear P0 P1 P2 P3 Q0 Q1 Q2 Q3 R0 R1 R2 R3
    replace P := P.kept Bx
    replace Q := Q.kept Bx
    replace R := R.kept Bx
    replace B := below1 B Bx
    clear Bx
    have ⟨R0, R1, R2, R3⟩ := R
    go_wp2
    refine bodyPost_ret (v := .tuple #[.agg #[.int .i64 0, .int .i64 0], .bool false]) (by simp [results, Tryd.results8, go_sem, *]) rfl ⟨rfl, ?_⟩
    exact below_set2 B (by omega) _ _
  · rw [h1] at K1
    cases h2 : okP b m
    · rw [h2] at K2
      rw [Bool.and_false]
      simp only [SM.sel]
      go_enter Tryd.func8, Tryd.ntmps8
      have ⟨P0, P1, P2, P3⟩ := P
      have ⟨Q0, Q1, Q2, Q3⟩ := Q
      have ⟨R0, R1, R2, R3⟩ := R
      go_wp2_with fail
      refine (K1 _).mono ?_
      rintro e w1 ⟨rfl, Bx⟩
      clear P0 P1 P2 P3 Q0 Q1 Q2 Q3 R0 R1 R2 R3
      replace P := P.kept Bx
      replace Q := Q.kept Bx
      replace R := R.kept Bx
      replace B := below1 B Bx
      clear Bx
      have ⟨P0, P1, P2, P3⟩ := P
      have ⟨Q0, Q1, Q2, Q3⟩ := Q
      have ⟨R0, R1, R2, R3⟩ := R
      go_wp2_with fail
      refine (K2 _).mono ?_
      rintro e w2 ⟨rfl, Bx⟩
      clear P0 P1 P2 P3 Q0 Q1 Q2 Q3 R0 R1 R2 R3
      replace P := P.kept Bx
      replace Q := Q.kept Bx
      replace R := R.kept Bx
      replace B := below1 B Bx
      clear Bx
      have ⟨R0, R1, R2, R3⟩ := R
      go_wp2
      refine bodyPost_ret (v := .tuple #[.agg #[.int .i64 0, .int .i64 0], .bool false]) (by simp [results, Tryd.results8, go_sem, *]) rfl ⟨rfl, ?_⟩
      exact below_set2 B (by omega) _ _
    · rw [h2] at K2
      rw [Bool.true_and]
      simp only [SM.sel]
      obtain ⟨⟨a0, a1⟩, l0, l1⟩ := okP_of h1
      obtain ⟨⟨b0, b1⟩, m0, m1⟩ := okP_of h2
      have sb := SI.sq_bd a l b m
      have sle := SI.sq_le a l b m
      have rb : SM.rootB (SI.sqL a l b m) (SI.sqH a l b m) = true := SM.root_mk (SM.okS_mk (by omega)) sb.1
      have KQ := fun w c n M hn => msquare_any a l b m c n w M hn a0 a1 l0 l1 b0 b1 m0 m1
      have KR : ∀ w, SW.Sn sa w → Calls Tryd.prog 20 #[spV (SI.sqL a l b m) (SI.sqH a l b m)] w fun e w' => e = .returned (.tuple #[spV (SM.rtLo (SI.sqL a l b m)) (SM.rtHi (SI.sqH a l b m)), .bool true]) ∧ Below w.heap.size w w' := fun w hs => by have := SW.spanRoot_any (SI.sqL a l b m) (SI.sqH a l b m) sa w hs; rw [rb] at this; exact this
      have r1 := SI.rt_bd sb.1
      have r2 := SI.rt_bd (show 0 ≤ SI.sqH a l b m by omega)
      have eL : SI.dsL a l b m = max (2 * SI.sbL (min (SM.rtLo (SI.sqL a l b m)) 1000000000)) 0 := rfl
      have eH : SI.dsH a l b m = 2 * SI.sbH (min (SM.rtHi (SI.sqH a l b m)) 1000000000) := rfl
      obtain ⟨_, _, z1, z2, z3, z4⟩ := SI.sb_of (x := min (SM.rtLo (SI.sqL a l b m)) 1000000000) (by omega) (by omega)
      obtain ⟨_, _, z5, z6, z7, z8⟩ := SI.sb_of (x := min (SM.rtHi (SI.sqH a l b m)) 1000000000) (by omega) (by omega)
      have KL := fun w c n M hn => backLowM_any (min (SM.rtLo (SI.sqL a l b m)) 1000000000) c n w M hn
      have KH := fun w c n M hn => backHighM_any (min (SM.rtHi (SI.sqH a l b m)) 1000000000) c n w M hn
      rw [eL, eH]
      clear eL eH rb sb sle r1 r2 z3 z4 z5 z6
      generalize SI.sbL (min (SM.rtLo (SI.sqL a l b m)) 1000000000) = p at *
      generalize SI.sbH (min (SM.rtHi (SI.sqH a l b m)) 1000000000) = q at *
      generalize SM.rtLo (SI.sqL a l b m) = r1 at *
      generalize SM.rtHi (SI.sqH a l b m) = r2 at *
      generalize SI.sqL a l b m = s1 at *
      generalize SI.sqH a l b m = s2 at *
      have hmm := @run_makeMap Tryd.prog
      have hmf : ∀ (fn : Fn) (first cap : Array Value) (w : World), (Instr.makeFunc fn first cap).run Tryd.prog w = .ok (.func fn first cap) w := fun _ _ _ _ => rfl
      go_enter Tryd.func8, Tryd.ntmps8
      have ⟨P0, P1, P2, P3⟩ := P
      have ⟨Q0, Q1, Q2, Q3⟩ := Q
      have ⟨R0, R1, R2, R3⟩ := R
      go_wp2_with fail
      refine (K1 _).mono ?_
      rintro e w1 ⟨rfl, Bx⟩
      clear P0 P1 P2 P3 Q0 Q1 Q2 Q3 R0 R1 R2 R3
      replace P := P.kept Bx
      replace Q := Q.kept Bx
      replace R := R.kept Bx
      replace B := below1 B Bx
      clear Bx
      have ⟨P0, P1, P2, P3⟩ := P
      have ⟨Q0, Q1, Q2, Q3⟩ := Q
      have ⟨R0, R1, R2, R3⟩ := R
      go_wp2_with fail
      refine (K2 _).mono ?_
      rintro e w2 ⟨rfl, Bx⟩
      clear P0 P1 P2 P3 Q0 Q1 Q2 Q3 R0 R1 R2 R3
      replace P := P.kept Bx
      replace Q := Q.kept Bx
      replace R := R.kept Bx
      replace B := below1 B Bx
      clear Bx
      have hs2 := B.size
      have hR := R.lt
      have ⟨P0, P1, P2, P3⟩ := P.alloc (.map #[] 0)
      have ⟨Q0, Q1, Q2, Q3⟩ := Q.alloc (.map #[] 0)
      go_wp2_with fail
      refine (KQ _ _ 0 (memo_made w2) (by omega)).mono ?_
      rintro e w3 ⟨rfl, M3, T3⟩
      replace R := tchBox (R.alloc (.map #[] 0)) T3 (by omega)
      replace B := (below1 B (below_new w2 (.map #[] 0))).trans (T3.toBelow (by simp; omega) (by omega))
      have hb3 := M3.lt
      clear P0 P1 P2 P3 Q0 Q1 Q2 Q3 T3 P Q KQ K1 K2 h1 h2
      generalize w2.heap.size = bm at *
      go_wp2_with fail
      refine (KR _ (hs.kept B)).mono ?_
      rintro e w4 ⟨rfl, B4⟩
      replace R := (R.kept B4).alloc (.cells #[.int .i64 r1, .int .i64 r2] 43)
      replace M3 := (M3.kept B4).alloc (.cells #[.int .i64 r1, .int .i64 r2] 43)
      have S := Box.new w4 r1 r2 43
      replace B := below1 (below1 B B4) (below_new w4 (.cells #[.int .i64 r1, .int .i64 r2] 43))
      have hw4 := B4.size
      clear B4 KR
      have hs4 := B.size
      have ⟨S0, S1, S2, S3⟩ := S
      go_wp2_with fail
      refine (KL _ _ _ M3 (by omega)).mono ?_
      rintro e w5 ⟨rfl, M5, T5⟩
      clear S0 S1 S2 S3
      replace R := tchBox R T5 (by omega)
      replace S := tchBox S T5 (by omega)
      replace B := B.trans (T5.toBelow hs4 (by omega))
      clear T5 M3 KL
      have hs5 := B.size
      have ⟨S0, S1, S2, S3⟩ := S
      go_wp2_with fail
      refine (KH _ _ _ M5 (by omega)).mono ?_
      rintro e w6 ⟨rfl, M6, T6⟩
      clear S0 S1 S2 S3
      obtain ⟨R0, R1, R2, R3⟩ := tchBox R T6 (by omega)
      replace B := B.trans (T6.toBelow hs5 (by omega))
      clear T6 M5 M6 KH S R
      go_wp2
      refine bodyPost_ret (v := .tuple #[.agg #[.int .i64 (max (2 * p) 0), .int .i64 (2 * q)], .bool true]) (by simp [results, Tryd.results8, go_sem, *]) rfl ⟨rfl, ?_⟩
      exact below_set2 B (by omega) _ _
end SK
end Go.Proofs.YtfdkpcejjcifganDoor
namespace Go.Proofs.YtfdkpcejjcifganDoor
open Go.RowKit Go.Sort Go.Maps
set_option linter.unusedVariables false
namespace SK
/-- As 'Mw', with room for thirty entries an operation. -/
structure Mx (b N : Nat) (w0 : World) (f : Nat) where
  w : World
  me : ∃ n, Memo w b n ∧ n + 30 * f ≤ N
  tc : DK.Tch b w0.heap.size w0 w
abbrev Cx (b N : Nat) (w0 : World) : Nat → World → Prop := fun f w' => ∃ q : Mx b N w0 f, w' = q.w
theorem Cx.mono {b N : Nat} {w0 : World} : ∀ f w, Cx b N w0 (f + 1) w → Cx b N w0 f w := by
  rintro f w ⟨q, rfl⟩
  obtain ⟨n, h1, h2⟩ := q.me
  exact ⟨⟨q.w, ⟨n, h1, by omega⟩, q.tc⟩, rfl⟩
theorem Cx.start {b n : Nat} {w0 : World} (k : Nat) (M : Memo w0 b n) : Cx b (n + 30 * k) w0 k { w0 with drawn := w0.drawn + 1 } :=
  ⟨⟨w0.drew, ⟨n, M.of_block rfl, Nat.le_refl _⟩, (DK.Tch.refl _ _ _).drew⟩, rfl⟩
theorem Mx.box {b N f : Nat} {w0 : World} (q : Mx b N w0 f) {c : Nat} {x y : Int} (X : Box w0 c x y) (ne : c ≠ b) : Box q.w c x y :=
  ⟨(q.tc.cell X.lt ne).trans X.c0, (q.tc.cell X.lt ne).trans X.c1, (q.tc.frozen X.lt ne).trans X.f0, (q.tc.frozen X.lt ne).trans X.f1⟩
theorem quiet_loose30 {nd : Nat → Option (Act → Value → World → Prop)} {g : FuncId} {args : Array Value} {v : Value} {b N f : Nat} {w0 : World} (q : Mx b N w0 (f + 1)) (hK : ∀ w w', DK.Tch b w.heap.size w w' → LQ.Keeps nd w w')
    (h : Calls Tryd.prog g args q.w fun e w' => e = .returned v ∧ Below q.w.heap.size q.w w') : Calls Tryd.prog g args q.w fun e w'' => e = .returned v ∧ Cx b N w0 f w'' ∧ LQ.Keeps nd q.w w'' := by
  obtain ⟨n, h1, h2⟩ := q.me
  exact h.mono fun e w' ⟨he, B⟩ => ⟨he, ⟨⟨w', ⟨n, h1.kept B, by omega⟩, q.tc.trans (DK.Tch.ofBelow (B.mono q.tc.size))⟩, rfl⟩, hK _ _ (DK.Tch.ofBelow B)⟩
theorem memo_loose30 {nd : Nat → Option (Act → Value → World → Prop)} {g : FuncId} {args : Array Value} {v : Value} {b N f : Nat} {w0 : World} (q : Mx b N w0 (f + 1)) (hN : N ≤ 900) (hK : ∀ w w', DK.Tch b w.heap.size w w' → LQ.Keeps nd w w')
    (h : ∀ n, n ≤ 899 → Memo q.w b n → Calls Tryd.prog g args q.w fun e w' => e = .returned v ∧ Memo w' b (n + 30) ∧ DK.Tch b q.w.heap.size q.w w') : Calls Tryd.prog g args q.w fun e w'' => e = .returned v ∧ Cx b N w0 f w'' ∧ LQ.Keeps nd q.w w'' := by
  obtain ⟨n, h1, h2⟩ := q.me
  exact (h n (by omega) h1).mono fun e w' ⟨he, M, T⟩ => ⟨he, ⟨⟨w', ⟨n + 30, M, by omega⟩, q.tc.trans (T.mono q.tc.size)⟩, rfl⟩, hK _ _ T⟩
set_option maxHeartbeats 4000000 in
theorem spotNear_any (g n a l b m : Int) (sa : Addr) (w : World) (hs : SW.Sn sa w) : Calls Tryd.prog 5 #[spV g n, spV a l, spV b m] w fun e w' => e = .returned (.int .i64 (nearV g n a l b m)) ∧ Below w.heap.size w w' := by
  have O := ((Box.new w g n 24).alloc (.cells #[.int .i64 a, .int .i64 l] 24)).alloc (.cells #[.int .i64 b, .int .i64 m] 24)
  have P := (Box.new2 w (.cells #[.int .i64 g, .int .i64 n] 24) a l 24).alloc (.cells #[.int .i64 b, .int .i64 m] 24)
  have Q : Box (((w.alloc (.cells #[.int .i64 g, .int .i64 n] 24)).alloc (.cells #[.int .i64 a, .int .i64 l] 24)).alloc (.cells #[.int .i64 b, .int .i64 m] 24)) (w.heap.size + 1 + 1) b m := by simpa using Box.new ((w.alloc (.cells #[.int .i64 g, .int .i64 n] 24)).alloc (.cells #[.int .i64 a, .int .i64 l] 24)) b m 24
  have B := below1 (below_new2 w (.cells #[.int .i64 g, .int .i64 n] 24) (.cells #[.int .i64 a, .int .i64 l] 24)) (below_new _ (.cells #[.int .i64 b, .int .i64 m] 24))
  have K1 := fun w => spotOk_any g n w
  have K2 := fun w => spotOk_any a l w
  have K3 := fun w => spotOk_any b m w
  have K4 := fun w => spotSame_any a l b m w
  cases h1 : okP g n
  · have E : Hide (3 = nearV g n a l b m) := ⟨by unfold nearV; rw [h1]; rfl⟩
    rw [h1] at K1
    go_enter Tryd.func5, Tryd.ntmps5
    have ⟨O0, O1, O2, O3⟩ := O
    have ⟨P0, P1, P2, P3⟩ := P
    have ⟨Q0, Q1, Q2, Q3⟩ := Q
    go_wp2_with fail
    refine (K1 _).mono ?_
    rintro e w1 ⟨rfl, Bx⟩
    clear O0 O1 O2 O3 P0 P1 P2 P3 Q0 Q1 Q2 Q3
    replace O := O.kept Bx
    replace P := P.kept Bx
    replace Q := Q.kept Bx
    replace B := below1 B Bx
    clear Bx
    go_wp2
    go_ret
    exact ⟨NW.ret_int E.out, B⟩
  · rw [h1] at K1
    cases h2 : okP a l
    · have E : Hide (3 = nearV g n a l b m) := ⟨by unfold nearV; rw [h1, h2]; rfl⟩
      rw [h2] at K2
      go_enter Tryd.func5, Tryd.ntmps5
      have ⟨O0, O1, O2, O3⟩ := O
      have ⟨P0, P1, P2, P3⟩ := P
      have ⟨Q0, Q1, Q2, Q3⟩ := Q
      go_wp2_with fail
      refine (K1 _).mono ?_
      rintro e w1 ⟨rfl, Bx⟩
      clear O0 O1 O2 O3 P0 P1 P2 P3 Q0 Q1 Q2 Q3
      replace O := O.kept Bx
      replace P := P.kept Bx
      replace Q := Q.kept Bx
      replace B := below1 B Bx
      clear Bx
      have ⟨O0, O1, O2, O3⟩ := O
      have ⟨P0, P1, P2, P3⟩ := P
      have ⟨Q0, Q1, Q2, Q3⟩ := Q
      go_wp2_with fail
      refine (K2 _).mono ?_
      rintro e w2 ⟨rfl, Bx⟩
      clear O0 O1 O2 O3 P0 P1 P2 P3 Q0 Q1 Q2 Q3
      replace O := O.kept Bx
      replace P := P.kept Bx
      replace Q := Q.kept Bx
      replace B := below1 B Bx
      clear Bx
      go_wp2
      go_ret
      exact ⟨NW.ret_int E.out, B⟩
    · rw [h2] at K2
      cases h3 : okP b m
      · have E : Hide (3 = nearV g n a l b m) := ⟨by unfold nearV; rw [h1, h2, h3]; rfl⟩
        rw [h3] at K3
        go_enter Tryd.func5, Tryd.ntmps5
        have ⟨O0, O1, O2, O3⟩ := O
        have ⟨P0, P1, P2, P3⟩ := P
        have ⟨Q0, Q1, Q2, Q3⟩ := Q
        go_wp2_with fail
        refine (K1 _).mono ?_
        rintro e w1 ⟨rfl, Bx⟩
        clear O0 O1 O2 O3 P0 P1 P2 P3 Q0 Q1 Q2 Q3
        replace O := O.kept Bx
        replace P := P.kept Bx
        replace Q := Q.kept Bx
        replace B := below1 B Bx
        clear Bx
        have ⟨O0, O1, O2, O3⟩ := O
        have ⟨P0, P1, P2, P3⟩ := P
        have ⟨Q0, Q1, Q2, Q3⟩ := Q
        go_wp2_with fail
        refine (K2 _).mono ?_
        rintro e w2 ⟨rfl, Bx⟩
        clear O0 O1 O2 O3 P0 P1 P2 P3 Q0 Q1 Q2 Q3
        replace O := O.kept Bx
        replace P := P.kept Bx
        replace Q := Q.kept Bx
        replace B := below1 B Bx
        clear Bx
        have ⟨O0, O1, O2, O3⟩ := O
        have ⟨P0, P1, P2, P3⟩ := P
        have ⟨Q0, Q1, Q2, Q3⟩ := Q
        go_wp2_with fail
        refine (K3 _).mono ?_
        rintro e w3 ⟨rfl, Bx⟩
        clear O0 O1 O2 O3 P0 P1 P2 P3 Q0 Q1 Q2 Q3
        replace O := O.kept Bx
        replace P := P.kept Bx
        replace Q := Q.kept Bx
        replace B := below1 B Bx
        clear Bx
        go_wp2
        go_ret
        exact ⟨NW.ret_int E.out, B⟩
      · rw [h3] at K3
        cases h4 : sameB a l b m
        · have E : Hide (SR.lessV (SI.sqL g n a l) (SI.sqH g n a l) (SI.sqL g n b m) (SI.sqH g n b m) = nearV g n a l b m) := ⟨by unfold nearV; rw [h1, h2, h3, h4]; rfl⟩
          rw [h4] at K4
          obtain ⟨⟨g0, g1⟩, n0, n1⟩ := okP_of h1
          obtain ⟨⟨a0, a1⟩, l0, l1⟩ := okP_of h2
          obtain ⟨⟨b0, b1⟩, m0, m1⟩ := okP_of h3
          have S1 := fun w c k M hk => msquare_any g n a l c k w M hk g0 g1 n0 n1 a0 a1 l0 l1
          have S2 := fun w c k M hk => msquare_any g n b m c k w M hk g0 g1 n0 n1 b0 b1 m0 m1
          have S3 := fun w hs => SW.sureLess_any (SI.sqL g n a l) (SI.sqH g n a l) (SI.sqL g n b m) (SI.sqH g n b m) sa w hs
          rw [← E.out]
          clear E
          generalize SR.lessV (SI.sqL g n a l) (SI.sqH g n a l) (SI.sqL g n b m) (SI.sqH g n b m) = v at *
          generalize SI.sqL g n a l = p1 at *
          generalize SI.sqH g n a l = p2 at *
          generalize SI.sqL g n b m = q1 at *
          generalize SI.sqH g n b m = q2 at *
          have hmm := @run_makeMap Tryd.prog
          go_enter Tryd.func5, Tryd.ntmps5
          have ⟨O0, O1, O2, O3⟩ := O
          have ⟨P0, P1, P2, P3⟩ := P
          have ⟨Q0, Q1, Q2, Q3⟩ := Q
          go_wp2_with fail
          refine (K1 _).mono ?_
          rintro e w1 ⟨rfl, Bx⟩
          clear O0 O1 O2 O3 P0 P1 P2 P3 Q0 Q1 Q2 Q3
          replace O := O.kept Bx
          replace P := P.kept Bx
          replace Q := Q.kept Bx
          replace B := below1 B Bx
          clear Bx
          have ⟨O0, O1, O2, O3⟩ := O
          have ⟨P0, P1, P2, P3⟩ := P
          have ⟨Q0, Q1, Q2, Q3⟩ := Q
          go_wp2_with fail
          refine (K2 _).mono ?_
          rintro e w2 ⟨rfl, Bx⟩
          clear O0 O1 O2 O3 P0 P1 P2 P3 Q0 Q1 Q2 Q3
          replace O := O.kept Bx
          replace P := P.kept Bx
          replace Q := Q.kept Bx
          replace B := below1 B Bx
          clear Bx
          have ⟨O0, O1, O2, O3⟩ := O
          have ⟨P0, P1, P2, P3⟩ := P
          have ⟨Q0, Q1, Q2, Q3⟩ := Q
          go_wp2_with fail
          refine (K3 _).mono ?_
          rintro e w3 ⟨rfl, Bx⟩
          clear O0 O1 O2 O3 P0 P1 P2 P3 Q0 Q1 Q2 Q3
          replace O := O.kept Bx
          replace P := P.kept Bx
          replace Q := Q.kept Bx
          replace B := below1 B Bx
          clear Bx
          have ⟨O0, O1, O2, O3⟩ := O
          have ⟨P0, P1, P2, P3⟩ := P
          have ⟨Q0, Q1, Q2, Q3⟩ := Q
          go_wp2_with fail
          refine (K4 _).mono ?_
          rintro e w4 ⟨rfl, Bx⟩
          clear O0 O1 O2 O3 P0 P1 P2 P3 Q0 Q1 Q2 Q3
          replace O := O.kept Bx
          replace P := P.kept Bx
          replace Q := Q.kept Bx
          replace B := below1 B Bx
          clear Bx
          have hQ4 := Q.lt
          replace O := O.alloc (.map #[] 0)
          replace P := P.alloc (.map #[] 0)
          replace Q := Q.alloc (.map #[] 0)
          have hb4 := B.size
          replace B := below1 B (below_new w4 (.map #[] 0))
          have M := memo_made w4
          go_wp2_with fail
          generalize hbm : w4.heap.size = bm at *
          generalize w4.alloc (.map #[] 0) = w5 at *
          have hO := O.lt
          have hb := M.lt
          clear K1 K2 K3 K4 h1 h2 h3 h4
          have x0 : ∀ f (q : Mx bm (0 + 30 * 9) w5 f), q.w.cell? ⟨w.heap.size, 0, none⟩ = some (.int .i64 g) := fun f q => (q.box O (by omega)).c0
          have x1 : ∀ f (q : Mx bm (0 + 30 * 9) w5 f), q.w.cell? ⟨w.heap.size, 1, none⟩ = some (.int .i64 n) := fun f q => (q.box O (by omega)).c1
          have x2 : ∀ f (q : Mx bm (0 + 30 * 9) w5 f), q.w.cell? ⟨w.heap.size + 1, 0, none⟩ = some (.int .i64 a) := fun f q => (q.box P (by omega)).c0
          have x3 : ∀ f (q : Mx bm (0 + 30 * 9) w5 f), q.w.cell? ⟨w.heap.size + 1, 1, none⟩ = some (.int .i64 l) := fun f q => (q.box P (by omega)).c1
          have x4 : ∀ f (q : Mx bm (0 + 30 * 9) w5 f), q.w.cell? ⟨w.heap.size + 1 + 1, 0, none⟩ = some (.int .i64 b) := fun f q => (q.box Q (by omega)).c0
          have x5 : ∀ f (q : Mx bm (0 + 30 * 9) w5 f), q.w.cell? ⟨w.heap.size + 1 + 1, 1, none⟩ = some (.int .i64 m) := fun f q => (q.box Q (by omega)).c1
          have x6 : ∀ f (q : Mx bm (0 + 30 * 9) w5 f), SW.Sn sa q.w := fun f q => hs.kept (B.trans (q.tc.toBelow B.size hb4))
          have kp : ∀ v v', DK.Tch bm v.heap.size v v' → LQ.Keeps (fun _ => none) v v' := fun _ _ _ => none_keeps
          refine LQ.region (Cx bm (0 + 30 * 9) w5) (fun _ => none) 9 [0, 1, 2, 3, 4, 5, 6, 7, 8] none_local (by kernel_rfl) (by kernel_rfl) Cx.mono (Cx.start 9 M) ?_
          iterate 3 (refine LQ.stepD rfl rfl (fun N hN => ?_); go_simp; apply Exists.intro; refine ⟨fun _ _ _ => ?_, hN _ _ ?_⟩; exact And.intro rfl rfl; clear hN N)
          refine LQ.stepD rfl rfl (fun N hN => ?_)
          go_simp
          apply Exists.intro
          refine ⟨fun f q _ => And.intro rfl ?_, hN _ _ ?_⟩
          exact memo_loose30 q (by omega) kp fun n' hn' M' => S1 _ _ n' M' (by omega)
          clear hN N
          iterate 3 (refine LQ.stepD rfl rfl (fun N hN => ?_); go_simp; apply Exists.intro; refine ⟨fun _ _ _ => ?_, hN _ _ ?_⟩; exact And.intro rfl rfl; clear hN N)
          refine LQ.stepD rfl rfl (fun N hN => ?_)
          go_simp
          apply Exists.intro
          refine ⟨fun f q _ => And.intro rfl ?_, hN _ _ ?_⟩
          exact memo_loose30 q (by omega) kp fun n' hn' M' => S2 _ _ n' M' (by omega)
          clear hN N
          refine LQ.stepD rfl rfl (fun N hN => ?_)
          go_simp
          apply Exists.intro
          refine ⟨fun f q _ => And.intro rfl ?_, hN _ _ ?_⟩
          exact quiet_loose30 q kp (S3 _ (x6 _ q))
          clear hN N
          refine LQ.lexEnd ?_
          rintro w6 ⟨r, rfl⟩ kn
          replace B := B.trans (r.tc.toBelow B.size hb4)
          clear kn x0 x1 x2 x3 x4 x5 x6 kp S1 S2 S3
          generalize r.w = w6 at *
          simp only [List.drop]
          go_wp2
          go_ret
          exact ⟨rfl, B⟩
        · have E : Hide (2 = nearV g n a l b m) := ⟨by unfold nearV; rw [h1, h2, h3, h4]; rfl⟩
          rw [h4] at K4
          go_enter Tryd.func5, Tryd.ntmps5
          have ⟨O0, O1, O2, O3⟩ := O
          have ⟨P0, P1, P2, P3⟩ := P
          have ⟨Q0, Q1, Q2, Q3⟩ := Q
          go_wp2_with fail
          refine (K1 _).mono ?_
          rintro e w1 ⟨rfl, Bx⟩
          clear O0 O1 O2 O3 P0 P1 P2 P3 Q0 Q1 Q2 Q3
          replace O := O.kept Bx
          replace P := P.kept Bx
          replace Q := Q.kept Bx
          replace B := below1 B Bx
          clear Bx
          have ⟨O0, O1, O2, O3⟩ := O
          have ⟨P0, P1, P2, P3⟩ := P
          have ⟨Q0, Q1, Q2, Q3⟩ := Q
          go_wp2_with fail
          refine (K2 _).mono ?_
          rintro e w2 ⟨rfl, Bx⟩
          clear O0 O1 O2 O3 P0 P1 P2 P3 Q0 Q1 Q2 Q3
          replace O := O.kept Bx
          replace P := P.kept Bx
          replace Q := Q.kept Bx
          replace B := below1 B Bx
          clear Bx
          have ⟨O0, O1, O2, O3⟩ := O
          have ⟨P0, P1, P2, P3⟩ := P
          have ⟨Q0, Q1, Q2, Q3⟩ := Q
          go_wp2_with fail
          refine (K3 _).mono ?_
          rintro e w3 ⟨rfl, Bx⟩
          clear O0 O1 O2 O3 P0 P1 P2 P3 Q0 Q1 Q2 Q3
          replace O := O.kept Bx
          replace P := P.kept Bx
          replace Q := Q.kept Bx
          replace B := below1 B Bx
          clear Bx
          have ⟨O0, O1, O2, O3⟩ := O
          have ⟨P0, P1, P2, P3⟩ := P
          have ⟨Q0, Q1, Q2, Q3⟩ := Q
          go_wp2_with fail
          refine (K4 _).mono ?_
          rintro e w4 ⟨rfl, Bx⟩
          clear O0 O1 O2 O3 P0 P1 P2 P3 Q0 Q1 Q2 Q3
          replace O := O.kept Bx
          replace P := P.kept Bx
          replace Q := Q.kept Bx
          replace B := below1 B Bx
          clear Bx
          go_wp2
          go_ret
          exact ⟨NW.ret_int E.out, B⟩
end SK
end Go.Proofs.YtfdkpcejjcifganDoor
