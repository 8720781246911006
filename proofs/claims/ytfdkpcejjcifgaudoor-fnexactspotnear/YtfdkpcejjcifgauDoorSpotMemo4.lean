/-
  The program's SpotSquare, SpotDist and SpotNear, by sines that a map keeps.
-/
import Derived.Test.YtfdkpcejjcifgauDoorSpotMemo3
import Derived.Test.YtfdkpcejjcifgauDoorBackImpl
import Derived.Test.YtfdkpcejjcifgauDoorSpanWalks4
import Derived.Test.YtfdkpcejjcifgauDoorSureWalks
import Derived.Test.YtfdkpcejjcifgauDoorSpotWalks4
namespace Go.Proofs.YtfdkpcejjcifgauDoor
open Go.RowKit Go.Sort Go.Maps
set_option linter.unusedVariables false
namespace SK
/-- As 'Mw', with room for thirty entries an operation. -/
structure Mx (b N : Nat) (w0 : World) (f : Nat) where
  w : World
  me : ∃ n, Memo w b n ∧ n + 30 * f ≤ N
  tc : DK.Tch b w0.heap.size w0 w
abbrev Cx (b N : Nat) (w0 : World) : Nat → World → Prop := fun f w' => ∃ q : Mx b N w0 f, w' = q.w
theorem Cx.mono {b N : Nat} {w0 : World} : ∀ f w, Cx b N w0 (f + 1) w → Cx b N w0 f w := by
  rintro f w ⟨q, rfl⟩
  obtain ⟨n, h1, h2⟩ := q.me
  exact ⟨⟨q.w, ⟨n, h1, by omega⟩, q.tc⟩, rfl⟩
theorem Cx.start {b n : Nat} {w0 : World} (k : Nat) (M : Memo w0 b n) : Cx b (n + 30 * k) w0 k { w0 with drawn := w0.drawn + 1 } :=
  ⟨⟨w0.drew, ⟨n, M.of_block rfl, Nat.le_refl _⟩, (DK.Tch.refl _ _ _).drew⟩, rfl⟩
theorem Mx.box {b N f : Nat} {w0 : World} (q : Mx b N w0 f) {c : Nat} {x y : Int} (X : Box w0 c x y) (ne : c ≠ b) : Box q.w c x y :=
  ⟨(q.tc.cell X.lt ne).trans X.c0, (q.tc.cell X.lt ne).trans X.c1, (q.tc.frozen X.lt ne).trans X.f0, (q.tc.frozen X.lt ne).trans X.f1⟩
theorem quiet_loose30 {nd : Nat → Option (Act → Value → World → Prop)} {g : FuncId} {args : Array Value} {v : Value} {b N f : Nat} {w0 : World} (q : Mx b N w0 (f + 1)) (hK : ∀ w w', DK.Tch b w.heap.size w w' → LQ.Keeps nd w w')
    (h : Calls Tryd.prog g args q.w fun e w' => e = .returned v ∧ Below q.w.heap.size q.w w') : Calls Tryd.prog g args q.w fun e w'' => e = .returned v ∧ Cx b N w0 f w'' ∧ LQ.Keeps nd q.w w'' := by
  obtain ⟨n, h1, h2⟩ := q.me
  exact h.mono fun e w' ⟨he, B⟩ => ⟨he, ⟨⟨w', ⟨n, h1.kept B, by omega⟩, q.tc.trans (DK.Tch.ofBelow (B.mono q.tc.size))⟩, rfl⟩, hK _ _ (DK.Tch.ofBelow B)⟩
theorem memo_loose30 {nd : Nat → Option (Act → Value → World → Prop)} {g : FuncId} {args : Array Value} {v : Value} {b N f : Nat} {w0 : World} (q : Mx b N w0 (f + 1)) (hN : N ≤ 900) (hK : ∀ w w', DK.Tch b w.heap.size w w' → LQ.Keeps nd w w')
    (h : ∀ n, n ≤ 899 → Memo q.w b n → Calls Tryd.prog g args q.w fun e w' => e = .returned v ∧ Memo w' b (n + 30) ∧ DK.Tch b q.w.heap.size q.w w') : Calls Tryd.prog g args q.w fun e w'' => e = .returned v ∧ Cx b N w0 f w'' ∧ LQ.Keeps nd q.w w'' := by
  obtain ⟨n, h1, h2⟩ := q.me
  exact (h n (by omega) h1).mono fun e w' ⟨he, M, T⟩ => ⟨he, ⟨⟨w', ⟨n + 30, M, by omega⟩, q.tc.trans (T.mono q.tc.size)⟩, rfl⟩, hK _ _ T⟩
set_option maxHeartbeats 4000000 in
theorem spotNear_any (g n a l b m : Int) (sa : Addr) (w : World) (hs : SW.Sn sa w) : Calls Tryd.prog 10 #[spV g n, spV a l, spV b m] w fun e w' => e = .returned (.int .i64 (nearV g n a l b m)) ∧ Below w.heap.size w w' := by
  have O := ((Box.new w g n 28).alloc (.cells #[.int .i64 a, .int .i64 l] 28)).alloc (.cells #[.int .i64 b, .int .i64 m] 28)
  have P := (Box.new2 w (.cells #[.int .i64 g, .int .i64 n] 28) a l 28).alloc (.cells #[.int .i64 b, .int .i64 m] 28)
  have Q : Box (((w.alloc (.cells #[.int .i64 g, .int .i64 n] 28)).alloc (.cells #[.int .i64 a, .int .i64 l] 28)).alloc (.cells #[.int .i64 b, .int .i64 m] 28)) (w.heap.size + 1 + 1) b m := by simpa using Box.new ((w.alloc (.cells #[.int .i64 g, .int .i64 n] 28)).alloc (.cells #[.int .i64 a, .int .i64 l] 28)) b m 28
  have B := below1 (below_new2 w (.cells #[.int .i64 g, .int .i64 n] 28) (.cells #[.int .i64 a, .int .i64 l] 28)) (below_new _ (.cells #[.int .i64 b, .int .i64 m] 28))
  have K1 := fun w => spotOk_any g n w
  have K2 := fun w => spotOk_any a l w
  have K3 := fun w => spotOk_any b m w
  have K4 := fun w => spotSame_any a l b m w
  cases h1 : okP g n
  · have E : Hide (3 = nearV g n a l b m) := ⟨by unfold nearV; rw [h1]; rfl⟩
    rw [h1] at K1
    go_enter Tryd.func10, Tryd.ntmps10
    have ⟨O0, O1, O2, O3⟩ := O
    have ⟨P0, P1, P2, P3⟩ := P
    have ⟨Q0, Q1, Q2, Q3⟩ := Q
    go_wp2_with fail
    refine (K1 _).mono ?_
    rintro e w1 ⟨rfl, Bx⟩
    clear O0 O1 O2 O3 P0 P1 P2 P3 Q0 Q1 Q2 Q3
    replace O := O.kept Bx
    replace P := P.kept Bx
    replace Q := Q.kept Bx
    replace B := below1 B Bx
    clear Bx
    go_wp2
    go_ret
    exact ⟨NW.ret_int E.out, B⟩
  · rw [h1] at K1
    cases h2 : okP a l
    · have E : Hide (3 = nearV g n a l b m) := ⟨by unfold nearV; rw [h1, h2]; rfl⟩
      rw [h2] at K2
      go_enter Tryd.func10, Tryd.ntmps10
      have ⟨O0, O1, O2, O3⟩ := O
      have ⟨P0, P1, P2, P3⟩ := P
      have ⟨Q0, Q1, Q2, Q3⟩ := Q
      go_wp2_with fail
      refine (K1 _).mono ?_
      rintro e w1 ⟨rfl, Bx⟩
      clear O0 O1 O2 O3 P0 P1 P2 P3 Q0 Q1 Q2 Q3
      replace O := O.kept Bx
      replace P := P.kept Bx
      replace Q := Q.kept Bx
      replace B := below1 B Bx
      clear Bx
      have ⟨O0, O1, O2, O3⟩ := O
      have ⟨P0, P1, P2, P3⟩ := P
      have ⟨Q0, Q1, Q2, Q3⟩ := Q
      go_wp2_with fail
      refine (K2 _).mono ?_
      rintro e w2 ⟨rfl, Bx⟩
      clear O0 O1 O2 O3 P0 P1 P2 P3 Q0 Q1 Q2 Q3
      replace O := O.kept Bx
      replace P := P.kept Bx
      replace Q := Q.kept Bx
      replace B := below1 B Bx
      clear Bx
      go_wp2
      go_ret
      exact ⟨NW.ret_int E.out, B⟩
    · rw [h2] at K2
      cases h3 : okP b m
      · have E : Hide (3 = nearV g n a l b m) := ⟨by unfold nearV; rw [h1, h2, h3]; rfl⟩
        rw [h3] at K3
        go_enter Tryd.func10, Tryd.ntmps10
        have ⟨O0, O1, O2, O3⟩ := O
        have ⟨P0, P1, P2, P3⟩ := P
        have ⟨Q0, Q1, Q2, Q3⟩ := Q
        go_wp2_with fail
        refine (K1 _).mono ?_
        rintro e w1 ⟨rfl, Bx⟩
        clear O0 O1 O2 O3 P0 P1 P2 P3 Q0 Q1 Q2 Q3
        replace O := O.kept Bx
        replace P := P.kept Bx
        replace Q := Q.kept Bx
        replace B := below1 B Bx
        clear Bx
        have ⟨O0, O1, O2, O3⟩ := O
        have ⟨P0, P1, P2, P3⟩ := P
        have ⟨Q0, Q1, Q2, Q3⟩ := Q
        go_wp2_with fail
        refine (K2 _).mono ?_
        rintro e w2 ⟨rfl, Bx⟩
        clear O0 O1 O2 O3 P0 P1 P2 P3 Q0 Q1 Q2 Q3
        replace O := O.kept Bx
        replace P := P.kept Bx
        replace Q := Q.kept Bx
        replace B := below1 B Bx
        clear Bx
        have ⟨O0, O1, O2, O3⟩ := O
        have ⟨P0, P1, P2, P3⟩ := P
        have ⟨Q0, Q1, Q2, Q3⟩ := Q
        go_wp2_with fail
        refine (K3 _).mono ?_
        rintro e w3 ⟨rfl, Bx⟩
        clear O0 O1 O2 O3 P0 P1 P2 P3 Q0 Q1 Q2 Q3
        replace O := O.kept Bx
        replace P := P.kept Bx
        replace Q := Q.kept Bx
        replace B := below1 B Bx
        clear Bx
        go_wp2
        go_ret
        exact ⟨NW.ret_int E.out, B⟩
      · rw [h3] at K3
        cases h4 : sameB a l b m
        · have E : Hide (SR.lessV (SI.sqL g n a l) (SI.sqH g n a l) (SI.sqL g n b m) (SI.sqH g n b m) = nearV g n a l b m) := ⟨by unfold nearV; rw [h1, h2, h3, h4]; rfl⟩
          rw [h4] at K4
          obtain ⟨⟨g0, g1⟩, n0, n1⟩ := okP_of h1
          obtain ⟨⟨a0, a1⟩, l0, l1⟩ := okP_of h2
          obtain ⟨⟨b0, b1⟩, m0, m1⟩ := okP_of h3
          have S1 := fun w c k M hk => msquare_any g n a l c k w M hk g0 g1 n0 n1 a0 a1 l0 l1
          have S2 := fun w c k M hk => msquare_any g n b m c k w M hk g0 g1 n0 n1 b0 b1 m0 m1
          have S3 := fun w hs => SW.sureLess_any (SI.sqL g n a l) (SI.sqH g n a l) (SI.sqL g n b m) (SI.sqH g n b m) sa w hs
          rw [← E.out]
          clear E
          generalize SR.lessV (SI.sqL g n a l) (SI.sqH g n a l) (SI.sqL g n b m) (SI.sqH g n b m) = v at *
          generalize SI.sqL g n a l = p1 at *
          generalize SI.sqH g n a l = p2 at *
          generalize SI.sqL g n b m = q1 at *
          generalize SI.sqH g n b m = q2 at *
          have hmm := @run_makeMap Tryd.prog
          go_enter Tryd.func10, Tryd.ntmps10
          have ⟨O0, O1, O2, O3⟩ := O
          have ⟨P0, P1, P2, P3⟩ := P
          have ⟨Q0, Q1, Q2, Q3⟩ := Q
          go_wp2_with fail
          refine (K1 _).mono ?_
          rintro e w1 ⟨rfl, Bx⟩
          clear O0 O1 O2 O3 P0 P1 P2 P3 Q0 Q1 Q2 Q3
          replace O := O.kept Bx
          replace P := P.kept Bx
          replace Q := Q.kept Bx
          replace B := below1 B Bx
          clear Bx
          have ⟨O0, O1, O2, O3⟩ := O
          have ⟨P0, P1, P2, P3⟩ := P
          have ⟨Q0, Q1, Q2, Q3⟩ := Q
          go_wp2_with fail
          refine (K2 _).mono ?_
          rintro e w2 ⟨rfl, Bx⟩
          clear O0 O1 O2 O3 P0 P1 P2 P3 Q0 Q1 Q2 Q3
          replace O := O.kept Bx
          replace P := P.kept Bx
          replace Q := Q.kept Bx
          replace B := below1 B Bx
          clear Bx
          have ⟨O0, O1, O2, O3⟩ := O
          have ⟨P0, P1, P2, P3⟩ := P
          have ⟨Q0, Q1, Q2, Q3⟩ := Q
          go_wp2_with fail
          refine (K3 _).mono ?_
          rintro e w3 ⟨rfl, Bx⟩
          clear O0 O1 O2 O3 P0 P1 P2 P3 Q0 Q1 Q2 Q3
          replace O := O.kept Bx
          replace P := P.kept Bx
          replace Q := Q.kept Bx
          replace B := below1 B Bx
          clear Bx
          have ⟨O0, O1, O2, O3⟩ := O
          have ⟨P0, P1, P2, P3⟩ := P
          have ⟨Q0, Q1, Q2, Q3⟩ := Q
          go_wp2_with fail
          refine (K4 _).mono ?_
          rintro e w4 ⟨rfl, Bx⟩
          clear O0 O1 O2 O3 P0 P1 P2 P3 Q0 Q1 Q2 Q3
          replace O := O.kept Bx
          replace P := P.kept Bx
          replace Q := Q.kept Bx
          replace B := below1 B Bx
          clear Bx
          have hQ4 := Q.lt
          replace O := O.alloc (.map #[] 0)
          replace P := P.alloc (.map #[] 0)
          replace Q := Q.alloc (.map #[] 0)
          have hb4 := B.size
          replace B := below1 B (below_new w4 (.map #[] 0))
          have M := memo_made w4
          go_wp2_with fail
          generalize hbm : w4.heap.size = bm at *
          generalize w4.alloc (.map #[] 0) = w5 at *
          have hO := O.lt
          have hb := M.lt
          clear K1 K2 K3 K4 h1 h2 h3 h4
          have x0 : ∀ f (q : Mx bm (0 + 30 * 9) w5 f), q.w.cell? ⟨w.heap.size, 0, none⟩ = some (.int .i64 g) := fun f q => (q.box O (by omega)).c0
          have x1 : ∀ f (q : Mx bm (0 + 30 * 9) w5 f), q.w.cell? ⟨w.heap.size, 1, none⟩ = some (.int .i64 n) := fun f q => (q.box O (by omega)).c1
          have x2 : ∀ f (q : Mx bm (0 + 30 * 9) w5 f), q.w.cell? ⟨w.heap.size + 1, 0, none⟩ = some (.int .i64 a) := fun f q => (q.box P (by omega)).c0
          have x3 : ∀ f (q : Mx bm (0 + 30 * 9) w5 f), q.w.cell? ⟨w.heap.size + 1, 1, none⟩ = some (.int .i64 l) := fun f q => (q.box P (by omega)).c1
          have x4 : ∀ f (q : Mx bm (0 + 30 * 9) w5 f), q.w.cell? ⟨w.heap.size + 1 + 1, 0, none⟩ = some (.int .i64 b) := fun f q => (q.box Q (by omega)).c0
          have x5 : ∀ f (q : Mx bm (0 + 30 * 9) w5 f), q.w.cell? ⟨w.heap.size + 1 + 1, 1, none⟩ = some (.int .i64 m) := fun f q => (q.box Q (by omega)).c1
          have x6 : ∀ f (q : Mx bm (0 + 30 * 9) w5 f), SW.Sn sa q.w := fun f q => hs.kept (B.trans (q.tc.toBelow B.size hb4))
          have kp : ∀ v v', DK.Tch bm v.heap.size v v' → LQ.Keeps (fun _ => none) v v' := fun _ _ _ => none_keeps
          refine LQ.region (Cx bm (0 + 30 * 9) w5) (fun _ => none) 9 [0, 1, 2, 3, 4, 5, 6, 7, 8] none_local (by kernel_rfl) (by kernel_rfl) Cx.mono (Cx.start 9 M) ?_
          iterate 3 (refine LQ.stepD rfl rfl (fun N hN => ?_); go_simp; apply Exists.intro; refine ⟨fun _ _ _ => ?_, hN _ _ ?_⟩; exact And.intro rfl rfl; clear hN N)
          refine LQ.stepD rfl rfl (fun N hN => ?_)
          go_simp
          apply Exists.intro
          refine ⟨fun f q _ => And.intro rfl ?_, hN _ _ ?_⟩
          exact memo_loose30 q (by omega) kp fun n' hn' M' => S1 _ _ n' M' (by omega)
          clear hN N
          iterate 3 (refine LQ.stepD rfl rfl (fun N hN => ?_); go_simp; apply Exists.intro; refine ⟨fun _ _ _ => ?_, hN _ _ ?_⟩; exact And.intro rfl rfl; clear hN N)
          refine LQ.stepD rfl rfl (fun N hN => ?_)
          go_simp
          apply Exists.intro
          refine ⟨fun f q _ => And.intro rfl ?_, hN _ _ ?_⟩
          exact memo_loose30 q (by omega) kp fun n' hn' M' => S2 _ _ n' M' (by omega)
          clear hN N
          refine LQ.stepD rfl rfl (fun N hN => ?_)
          go_simp
          apply Exists.intro
          refine ⟨fun f q _ => And.intro rfl ?_, hN _ _ ?_⟩
          exact quiet_loose30 q kp (S3 _ (x6 _ q))
          clear hN N
          refine LQ.lexEnd ?_
          rintro w6 ⟨r, rfl⟩ kn
          replace B := B.trans (r.tc.toBelow B.size hb4)
          clear kn x0 x1 x2 x3 x4 x5 x6 kp S1 S2 S3
          generalize r.w = w6 at *
          simp only [List.drop]
          go_wp2
          go_ret
          exact ⟨rfl, B⟩
        · have E : Hide (2 = nearV g n a l b m) := ⟨by unfold nearV; rw [h1, h2, h3, h4]; rfl⟩
          rw [h4] at K4
          go_enter Tryd.func10, Tryd.ntmps10
          have ⟨O0, O1, O2, O3⟩ := O
          have ⟨P0, P1, P2, P3⟩ := P
          have ⟨Q0, Q1, Q2, Q3⟩ := Q
          go_wp2_with fail
          refine (K1 _).mono ?_
          rintro e w1 ⟨rfl, Bx⟩
          clear O0 O1 O2 O3 P0 P1 P2 P3 Q0 Q1 Q2 Q3
          replace O := O.kept Bx
          replace P := P.kept Bx
          replace Q := Q.kept Bx
          replace B := below1 B Bx
          clear Bx
          have ⟨O0, O1, O2, O3⟩ := O
          have ⟨P0, P1, P2, P3⟩ := P
          have ⟨Q0, Q1, Q2, Q3⟩ := Q
          go_wp2_with fail
          refine (K2 _).mono ?_
          rintro e w2 ⟨rfl, Bx⟩
          clear O0 O1 O2 O3 P0 P1 P2 P3 Q0 Q1 Q2 Q3
          replace O := O.kept Bx
          replace P := P.kept Bx
          replace Q := Q.kept Bx
          replace B := below1 B Bx
          clear Bx
          have ⟨O0, O1, O2, O3⟩ := O
          have ⟨P0, P1, P2, P3⟩ := P
          have ⟨Q0, Q1, Q2, Q3⟩ := Q
          go_wp2_with fail
          refine (K3 _).mono ?_
          rintro e w3 ⟨rfl, Bx⟩
          clear O0 O1 O2 O3 P0 P1 P2 P3 Q0 Q1 Q2 Q3
          replace O := O.kept Bx
          replace P := P.kept Bx
          replace Q := Q.kept Bx
          replace B := below1 B Bx
          clear Bx
          have ⟨O0, O1, O2, O3⟩ := O
          have ⟨P0, P1, P2, P3⟩ := P
          have ⟨Q0, Q1, Q2, Q3⟩ := Q
          go_wp2_with fail
          refine (K4 _).mono ?_
          rintro e w4 ⟨rfl, Bx⟩
          clear O0 O1 O2 O3 P0 P1 P2 P3 Q0 Q1 Q2 Q3
          replace O := O.kept Bx
          replace P := P.kept Bx
          replace Q := Q.kept Bx
          replace B := below1 B Bx
          clear Bx
          go_wp2
          go_ret
          exact ⟨NW.ret_int E.out, B⟩
end SK
end Go.Proofs.YtfdkpcejjcifgauDoor
