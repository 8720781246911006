/-
  For every code of bytes the law returns true: by a drawn span with 0 in it nothing is divided; SpanDiv of a drawn span turned about is turned about. The package's variable errTooGreat is as the program's text lays it.
-/
import Derived.Test.YtpddpekencccladDoorCards
import Derived.Test.YtpddpekencccladDoorTie
import Derived.Test.YtpddpekencccladDoorDoorKit
import Derived.WalkKit
import Derived.ProofKit
import Derived.OpenShut
import Derived.ShutString
import Derived.ChangeOld
import Derived.Below
import Derived.LaidMore
import Derived.Stop.Joined
import Derived.SevenTiedAt
import Derived.Test.YtpddpekencccladDoorDrawKit
import Derived.Test.YtpddpekencccladDoorDrawWalks
import Derived.Test.YtpddpekencccladDoorDrawSpan
import Derived.Test.YtpddpekencccladDoorDrawSpan2
import Derived.Test.YtpddpekencccladDoorDrawSpan3
import Derived.Test.YtpddpekencccladDoorSpanWalks
import Derived.Test.YtpddpekencccladDoorSpanWalks2
import Derived.Test.YtpddpekencccladDoorDrawSpan4
import Derived.Test.YtpddpekencccladDoorSpanWalks3
import Derived.Test.YtpddpekencccladDoorLoose2Kit
import Derived.Test.YtpddpekencccladDoorKeptStep
namespace Go.Proofs.YtpddpekencccladDoor.fnSpanDivNone
open Go.ChangeShapes Go.WideShapes Go.ChangeAt Go.RowKit Go.Sort
set_option linter.unusedVariables false

theorem own : ownKnob Tryd.prog.godebug = none := by kernel_rfl
theorem laidOut : laidOutB Tryd.prog = true := by kernel_rfl
/-- What the walk is told of a slice of bytes that came in. -/
def IsRow (k : IntKind) (w : World) (a : Option Addr) (len cap : Nat) (zs : List Int) : Prop :=
  (a = none ∧ len = 0 ∧ cap = 0 ∧ zs = []) ∨
  ∃ x, a = some x ∧ len ≤ cap ∧ cap ≤ maxLen ∧ zs.length = cap ∧ (∀ i, i < zs.length → w.cell? (x.add i) = some (.int k (zs.getD i 0))) ∧ ∀ n ∈ zs, (Lit.int k n).wf = true
theorem add_none (b off i : Nat) : (⟨b, off, none⟩ : Addr).add i = ⟨b, off + i, none⟩ := by
  unfold Addr.add
  split
  · rename_i h
    subst h
    rfl
  · rfl
theorem src {w : World} {a : Option Addr} {len cap : Nat} {zs : List Int} (h : IsRow .u8 w a len cap zs) : DK.Src w a len cap := by
  rcases h with ⟨rfl, rfl, rfl, rfl⟩ | ⟨x, rfl, hl, hm, hz, hcell, hwz⟩
  · exact ⟨by omega, by omega, .inl rfl⟩
  · unfold maxLen at hm
    refine ⟨hl, by omega, ?_⟩
    by_cases h0 : len = 0
    · exact .inl h0
    · obtain ⟨b, off, spot⟩ := x
      have hc := hcell 0 (by omega)
      have hspot : spot = none := by simpa [Addr.add] using World.cell?_spot hc
      subst hspot
      refine .inr ⟨b, off, rfl, fun i hi => ?_⟩
      have hi2 : i < zs.length := by omega
      have hb := bounds_u8 (hwz (zs.getD i 0) (by simp [List.getD, hi2]))
      have hci := hcell i hi2
      rw [add_none] at hci
      exact ⟨zs.getD i 0, hb.1, hb.2, hci⟩


set_option maxHeartbeats 8000000 in
theorem walk (a0 : Option Addr) (len0 cap0 : Nat) (z0 : List Int) (sa : Addr) (w : World) (w0 : IsRow .u8 w a0 len0 cap0 z0) (hs : SW.Sn sa w) :
    Calls Tryd.prog 6 #[.slice a0 len0 cap0] w fun e w' => e = .returned (.bool true) ∧ Below w.heap.size w w' := by
  by_cases hl : (len0 : Int) ≤ 1048576
  · go_enter Tryd.func6, Tryd.ntmps6
    go_wp2_with fail
    refine (DW.drawSpanDiv_any _ _ _ _ (src w0)).mono ?_
    rintro e w1 ⟨sl, sh, tl, th, rfl, l0, l1, h0, h1, m0, m1, n0, n1, B⟩
    have hs1 := hs.kept B
    have S := (SW.Box.new w1 sl sh 24).alloc (.cells #[.int .i64 (tl), .int .i64 (th)] 24)
    have T := SW.Box.new2 w1 (.cells #[.int .i64 (sl), .int .i64 (sh)] 24) tl th 24
    replace B := SW.below1 B (SW.below_new2 w1 (.cells #[.int .i64 (sl), .int .i64 (sh)] 24) (.cells #[.int .i64 (tl), .int .i64 (th)] 24))
    replace hs1 := (hs1.alloc (.cells #[.int .i64 (sl), .int .i64 (sh)] 24)).alloc (.cells #[.int .i64 (tl), .int .i64 (th)] 24)
    cases ho : SM.divB sl sh tl th
    · obtain ⟨nl, nh, F3⟩ : ∃ nl nh : Int, ∀ w a, SW.Sn a w → Calls Tryd.prog 12 #[SW.spV sl sh] w fun e w' => e = .returned (SW.spV nl nh) ∧ Below w.heap.size w w' := ⟨_, _, fun w a hs => SW.spanNeg_any sl sh a w hs⟩
      obtain ⟨yl, yh, yb, F4⟩ : ∃ (yl yh : Int) (yb : Bool), ∀ w a, SW.Sn a w → Calls Tryd.prog 18 #[SW.spV nl nh, SW.spV tl th] w fun e w' => e = .returned (.tuple #[SW.spV yl yh, .bool yb]) ∧ Below w.heap.size w w' := ⟨_, _, _, fun w a hs => SW.spanDiv_any nl nh tl th a w hs⟩
      have F1 : ∀ w, Calls Tryd.prog 17 #[SW.spV sl sh, SW.spV tl th] w fun e w' => e = .returned (.tuple #[SW.spV (0) (0), .bool false]) ∧ Below w.heap.size w w' := fun w => by have := SW.sSpanDiv_any sl sh tl th w; rw [ho] at this; exact this
      have F2 : ∀ w a, SW.Sn a w → Calls Tryd.prog 18 #[SW.spV sl sh, SW.spV tl th] w fun e w' => e = .returned (.tuple #[SW.spV (0) (0), .bool false]) ∧ Below w.heap.size w w' := fun w a hs => by have := SW.spanDiv_any sl sh tl th a w hs; rw [ho] at this; exact this
      have ⟨S0, S1, S2, S3⟩ := S
      have ⟨T0, T1, T2, T3⟩ := T
      go_wp2_with fail
      refine (F1 _).mono ?_
      rintro e w11 ⟨rfl, Bx⟩
      clear S0 S1 S2 S3 T0 T1 T2 T3
      replace S := S.kept Bx
      replace T := T.kept Bx
      replace hs1 := hs1.kept Bx
      replace B := SW.below1 B Bx
      clear Bx
      replace S := S.alloc (.cells #[.int .i64 (0), .int .i64 (0)] 24)
      replace T := T.alloc (.cells #[.int .i64 (0), .int .i64 (0)] 24)
      have W := SW.Box.new w11 (0) (0) 24
      replace hs1 := hs1.alloc (.cells #[.int .i64 (0), .int .i64 (0)] 24)
      replace B := SW.below1 B (SW.below_new w11 (.cells #[.int .i64 (0), .int .i64 (0)] 24))
      have ⟨S0, S1, S2, S3⟩ := S
      have ⟨T0, T1, T2, T3⟩ := T
      have ⟨W0, W1, W2, W3⟩ := W
      go_wp2_with fail
      refine (F2 _ sa hs1).mono ?_
      rintro e w12 ⟨rfl, Bx⟩
      clear S0 S1 S2 S3 T0 T1 T2 T3 W0 W1 W2 W3
      replace S := S.kept Bx
      replace T := T.kept Bx
      replace W := W.kept Bx
      replace hs1 := hs1.kept Bx
      replace B := SW.below1 B Bx
      clear Bx
      replace S := S.alloc (.cells #[.int .i64 (0), .int .i64 (0)] 24)
      replace T := T.alloc (.cells #[.int .i64 (0), .int .i64 (0)] 24)
      replace W := W.alloc (.cells #[.int .i64 (0), .int .i64 (0)] 24)
      have X := SW.Box.new w12 (0) (0) 24
      replace hs1 := hs1.alloc (.cells #[.int .i64 (0), .int .i64 (0)] 24)
      replace B := SW.below1 B (SW.below_new w12 (.cells #[.int .i64 (0), .int .i64 (0)] 24))
      cases hz : SM.okS tl th
      · have F7 : ∀ w, Calls Tryd.prog 19 #[SW.spV tl th] w fun e w' => e = .returned (.bool false) ∧ Below w.heap.size w w' := fun w => by have := SW.sSpanOk_any tl th w; rw [hz] at this; exact this
        have ⟨S0, S1, S2, S3⟩ := S
        have ⟨T0, T1, T2, T3⟩ := T
        have ⟨W0, W1, W2, W3⟩ := W
        have ⟨X0, X1, X2, X3⟩ := X
        go_wp2_with fail
        refine (F7 _).mono ?_
        rintro e w13 ⟨rfl, Bx⟩
        clear S0 S1 S2 S3 T0 T1 T2 T3 W0 W1 W2 W3 X0 X1 X2 X3
        replace S := S.kept Bx
        replace T := T.kept Bx
        replace W := W.kept Bx
        replace X := X.kept Bx
        replace hs1 := hs1.kept Bx
        replace B := SW.below1 B Bx
        clear Bx
        have ⟨S0, S1, S2, S3⟩ := S
        have ⟨T0, T1, T2, T3⟩ := T
        have ⟨W0, W1, W2, W3⟩ := W
        have ⟨X0, X1, X2, X3⟩ := X
        go_wp2_with fail
        clear S0 S1 S2 S3 T0 T1 T2 T3 W0 W1 W2 W3 X0 X1 X2 X3
        have Sk0 := cell_regrown S.c0
        have Sk1 := cell_regrown S.c1
        have Tk0 := cell_regrown T.c0
        have Tk1 := cell_regrown T.c1
        have Wk0 := cell_regrown W.c0
        have Wk1 := cell_regrown W.c1
        have Xk0 := cell_regrown X.c0
        have Xk1 := cell_regrown X.c1
        have c1 : ∀ d os, Calls Tryd.prog 12 #[SW.spV sl sh] (grow (redrawn w13 d) os) fun e w'' => e = .returned (SW.spV nl nh) ∧ (∃ p : Regrown, w'' = grow (redrawn w13 p.d) p.os) ∧ LQ.Keeps (LK.ndTwo w13.heap.size 7 10 (yl) (yh)) (grow (redrawn w13 d) os) w'' := fun d os => LK.of_below (F3 _ sa (hs1.kept (below_regrown w13 d os)))
        have c2 : ∀ d os, Calls Tryd.prog 18 #[SW.spV nl nh, SW.spV tl th] (grow (redrawn w13 d) os) fun e w'' => e = .returned (.tuple #[SW.spV yl yh, .bool yb]) ∧ (∃ p : Regrown, w'' = grow (redrawn w13 p.d) p.os) ∧ LQ.Keeps (LK.ndTwo w13.heap.size 7 10 (yl) (yh)) (grow (redrawn w13 d) os) w'' := fun d os => LK.of_below (F4 _ sa (hs1.kept (below_regrown w13 d os)))
        refine LQ.region (LK.Cl w13) (LK.ndTwo w13.heap.size 7 10 (yl) (yh)) 9 [0, 1, 2, 3, 4, 5, 6, 7, 8] (LK.ndTwo_local (by kernel_rfl)) (by kernel_rfl) (by kernel_rfl) (fun _ _ h => h) (LK.Cl.start w13 9) ?_
        iterate 1 (refine LQ.stepD rfl rfl (fun N hN => ?_); go_simp; apply Exists.intro; refine ⟨fun _ _ _ => ?_, hN _ _ ?_⟩; exact And.intro rfl rfl; clear hN N)
        refine LQ.stepD rfl rfl (fun N hN => ?_)
        go_simp
        apply Exists.intro
        refine ⟨fun _ _ _ => ?_, hN _ _ ?_⟩
        exact And.intro rfl (c1 _ _)
        clear hN N
        iterate 1 (refine LQ.stepD rfl rfl (fun N hN => ?_); go_simp; apply Exists.intro; refine ⟨fun _ _ _ => ?_, hN _ _ ?_⟩; exact And.intro rfl rfl; clear hN N)
        refine LQ.stepD rfl rfl (fun N hN => ?_)
        go_simp
        apply Exists.intro
        refine ⟨fun _ _ _ => ?_, hN _ _ ?_⟩
        exact And.intro rfl (c2 _ _)
        clear hN N
        iterate 3 (refine LQ.stepD rfl rfl (fun N hN => ?_); go_simp; apply Exists.intro; refine ⟨fun _ _ _ => ?_, hN _ _ ?_⟩; exact And.intro rfl rfl; clear hN N)
        refine LQ.stepN rfl rfl (fun N hN => ?_)
        go_simp
        refine ⟨fun f p _ => LK.alloc w13 p.d p.os 7 10 (yl) (yh) _ _ (by simp [grow]), ?_⟩
        rintro u _ bw14 rfl hbw14 _ _ _
        refine hN _ _ ?_
        clear hN N c1 c2 Sk0 Sk1 Tk0 Tk1 Wk0 Wk1 Xk0 Xk1
        refine LQ.stepN rfl rfl (fun N hN => ?_)
        go_simp
        refine ⟨fun f p hk => ?_, fun _ _ => hN _ _ ?_⟩
        · obtain ⟨x', y', X'⟩ := (hk _ (List.mem_cons_self ..)).2
          have X'' := X'
          obtain ⟨e0, e1, e2, e3⟩ := X''
          clear hk
          go_simp
          exact LK.store1 hbw14 X'
        clear hN N
        refine LQ.lexEnd ?_
        rintro w14 ⟨p, rfl⟩ kn
        have Bx := below_regrown w13 p.d p.os
        have Y : SW.Box (grow (redrawn w13 p.d) p.os) bw14 (yl) (yh) := (kn _ (List.mem_cons_self ..)).2
        clear kn
        generalize grow (redrawn w13 p.d) p.os = w14 at *
        simp only [List.drop]
        replace S := S.kept Bx
        replace T := T.kept Bx
        replace W := W.kept Bx
        replace X := X.kept Bx
        replace hs1 := hs1.kept Bx
        replace B := SW.below1 B Bx
        clear Bx
        have ⟨S0, S1, S2, S3⟩ := S
        have ⟨T0, T1, T2, T3⟩ := T
        have ⟨W0, W1, W2, W3⟩ := W
        have ⟨X0, X1, X2, X3⟩ := X
        have ⟨Y0, Y1, Y2, Y3⟩ := Y
        go_wp2_with fail
        clear S0 S1 S2 S3 T0 T1 T2 T3 W0 W1 W2 W3 X0 X1 X2 X3 Y0 Y1 Y2 Y3
        have Sk0 := cell_regrown S.c0
        have Sk1 := cell_regrown S.c1
        have Tk0 := cell_regrown T.c0
        have Tk1 := cell_regrown T.c1
        have Wk0 := cell_regrown W.c0
        have Wk1 := cell_regrown W.c1
        have Xk0 := cell_regrown X.c0
        have Xk1 := cell_regrown X.c1
        have Yk0 := cell_regrown Y.c0
        have Yk1 := cell_regrown Y.c1
        refine KS.region (by kernel_rfl) (by kernel_rfl) ?_
        repeat (refine KS.step (fun K hK => ?_); go_simp; refine hK _ ?_; clear hK K)
        refine KS.nil ?_
        rintro _ ⟨p, rfl⟩
        have Bx := below_regrown w14 p.d p.os
        generalize grow (redrawn w14 p.d) p.os = w15 at *
        clear Sk0 Sk1 Tk0 Tk1 Wk0 Wk1 Xk0 Xk1 Yk0 Yk1
        replace S := S.kept Bx
        replace T := T.kept Bx
        replace W := W.kept Bx
        replace X := X.kept Bx
        replace Y := Y.kept Bx
        replace hs1 := hs1.kept Bx
        replace B := SW.below1 B Bx
        clear Bx
        have ⟨S0, S1, S2, S3⟩ := S
        have ⟨T0, T1, T2, T3⟩ := T
        have ⟨W0, W1, W2, W3⟩ := W
        have ⟨X0, X1, X2, X3⟩ := X
        have ⟨Y0, Y1, Y2, Y3⟩ := Y
        go_wp2
        go_ret
        exact ⟨rfl, B⟩
      · have F7 : ∀ w, Calls Tryd.prog 19 #[SW.spV tl th] w fun e w' => e = .returned (.bool true) ∧ Below w.heap.size w w' := fun w => by have := SW.sSpanOk_any tl th w; rw [hz] at this; exact this
        have ⟨S0, S1, S2, S3⟩ := S
        have ⟨T0, T1, T2, T3⟩ := T
        have ⟨W0, W1, W2, W3⟩ := W
        have ⟨X0, X1, X2, X3⟩ := X
        go_wp2_with fail
        refine (F7 _).mono ?_
        rintro e w13 ⟨rfl, Bx⟩
        clear S0 S1 S2 S3 T0 T1 T2 T3 W0 W1 W2 W3 X0 X1 X2 X3
        replace S := S.kept Bx
        replace T := T.kept Bx
        replace W := W.kept Bx
        replace X := X.kept Bx
        replace hs1 := hs1.kept Bx
        replace B := SW.below1 B Bx
        clear Bx
        by_cases z1 : tl ≤ 0
        · by_cases z2 : 0 ≤ th
          · have ⟨S0, S1, S2, S3⟩ := S
            have ⟨T0, T1, T2, T3⟩ := T
            have ⟨W0, W1, W2, W3⟩ := W
            have ⟨X0, X1, X2, X3⟩ := X
            go_wp2_with fail
            clear S0 S1 S2 S3 T0 T1 T2 T3 W0 W1 W2 W3 X0 X1 X2 X3
            have Sk0 := cell_regrown S.c0
            have Sk1 := cell_regrown S.c1
            have Tk0 := cell_regrown T.c0
            have Tk1 := cell_regrown T.c1
            have Wk0 := cell_regrown W.c0
            have Wk1 := cell_regrown W.c1
            have Xk0 := cell_regrown X.c0
            have Xk1 := cell_regrown X.c1
            have c1 : ∀ d os, Calls Tryd.prog 12 #[SW.spV sl sh] (grow (redrawn w13 d) os) fun e w'' => e = .returned (SW.spV nl nh) ∧ (∃ p : Regrown, w'' = grow (redrawn w13 p.d) p.os) ∧ LQ.Keeps (LK.ndTwo w13.heap.size 7 10 (yl) (yh)) (grow (redrawn w13 d) os) w'' := fun d os => LK.of_below (F3 _ sa (hs1.kept (below_regrown w13 d os)))
            have c2 : ∀ d os, Calls Tryd.prog 18 #[SW.spV nl nh, SW.spV tl th] (grow (redrawn w13 d) os) fun e w'' => e = .returned (.tuple #[SW.spV yl yh, .bool yb]) ∧ (∃ p : Regrown, w'' = grow (redrawn w13 p.d) p.os) ∧ LQ.Keeps (LK.ndTwo w13.heap.size 7 10 (yl) (yh)) (grow (redrawn w13 d) os) w'' := fun d os => LK.of_below (F4 _ sa (hs1.kept (below_regrown w13 d os)))
            refine LQ.region (LK.Cl w13) (LK.ndTwo w13.heap.size 7 10 (yl) (yh)) 9 [0, 1, 2, 3, 4, 5, 6, 7, 8] (LK.ndTwo_local (by kernel_rfl)) (by kernel_rfl) (by kernel_rfl) (fun _ _ h => h) (LK.Cl.start w13 9) ?_
            iterate 1 (refine LQ.stepD rfl rfl (fun N hN => ?_); go_simp; apply Exists.intro; refine ⟨fun _ _ _ => ?_, hN _ _ ?_⟩; exact And.intro rfl rfl; clear hN N)
            refine LQ.stepD rfl rfl (fun N hN => ?_)
            go_simp
            apply Exists.intro
            refine ⟨fun _ _ _ => ?_, hN _ _ ?_⟩
            exact And.intro rfl (c1 _ _)
            clear hN N
            iterate 1 (refine LQ.stepD rfl rfl (fun N hN => ?_); go_simp; apply Exists.intro; refine ⟨fun _ _ _ => ?_, hN _ _ ?_⟩; exact And.intro rfl rfl; clear hN N)
            refine LQ.stepD rfl rfl (fun N hN => ?_)
            go_simp
            apply Exists.intro
            refine ⟨fun _ _ _ => ?_, hN _ _ ?_⟩
            exact And.intro rfl (c2 _ _)
            clear hN N
            iterate 3 (refine LQ.stepD rfl rfl (fun N hN => ?_); go_simp; apply Exists.intro; refine ⟨fun _ _ _ => ?_, hN _ _ ?_⟩; exact And.intro rfl rfl; clear hN N)
            refine LQ.stepN rfl rfl (fun N hN => ?_)
            go_simp
            refine ⟨fun f p _ => LK.alloc w13 p.d p.os 7 10 (yl) (yh) _ _ (by simp [grow]), ?_⟩
            rintro u _ bw14 rfl hbw14 _ _ _
            refine hN _ _ ?_
            clear hN N c1 c2 Sk0 Sk1 Tk0 Tk1 Wk0 Wk1 Xk0 Xk1
            refine LQ.stepN rfl rfl (fun N hN => ?_)
            go_simp
            refine ⟨fun f p hk => ?_, fun _ _ => hN _ _ ?_⟩
            · obtain ⟨x', y', X'⟩ := (hk _ (List.mem_cons_self ..)).2
              have X'' := X'
              obtain ⟨e0, e1, e2, e3⟩ := X''
              clear hk
              go_simp
              exact LK.store1 hbw14 X'
            clear hN N
            refine LQ.lexEnd ?_
            rintro w14 ⟨p, rfl⟩ kn
            have Bx := below_regrown w13 p.d p.os
            have Y : SW.Box (grow (redrawn w13 p.d) p.os) bw14 (yl) (yh) := (kn _ (List.mem_cons_self ..)).2
            clear kn
            generalize grow (redrawn w13 p.d) p.os = w14 at *
            simp only [List.drop]
            replace S := S.kept Bx
            replace T := T.kept Bx
            replace W := W.kept Bx
            replace X := X.kept Bx
            replace hs1 := hs1.kept Bx
            replace B := SW.below1 B Bx
            clear Bx
            have ⟨S0, S1, S2, S3⟩ := S
            have ⟨T0, T1, T2, T3⟩ := T
            have ⟨W0, W1, W2, W3⟩ := W
            have ⟨X0, X1, X2, X3⟩ := X
            have ⟨Y0, Y1, Y2, Y3⟩ := Y
            go_wp2_with fail
            clear S0 S1 S2 S3 T0 T1 T2 T3 W0 W1 W2 W3 X0 X1 X2 X3 Y0 Y1 Y2 Y3
            have Sk0 := cell_regrown S.c0
            have Sk1 := cell_regrown S.c1
            have Tk0 := cell_regrown T.c0
            have Tk1 := cell_regrown T.c1
            have Wk0 := cell_regrown W.c0
            have Wk1 := cell_regrown W.c1
            have Xk0 := cell_regrown X.c0
            have Xk1 := cell_regrown X.c1
            have Yk0 := cell_regrown Y.c0
            have Yk1 := cell_regrown Y.c1
            refine KS.region (by kernel_rfl) (by kernel_rfl) ?_
            repeat (refine KS.step (fun K hK => ?_); go_simp; refine hK _ ?_; clear hK K)
            refine KS.nil ?_
            rintro _ ⟨p, rfl⟩
            have Bx := below_regrown w14 p.d p.os
            generalize grow (redrawn w14 p.d) p.os = w15 at *
            clear Sk0 Sk1 Tk0 Tk1 Wk0 Wk1 Xk0 Xk1 Yk0 Yk1
            replace S := S.kept Bx
            replace T := T.kept Bx
            replace W := W.kept Bx
            replace X := X.kept Bx
            replace Y := Y.kept Bx
            replace hs1 := hs1.kept Bx
            replace B := SW.below1 B Bx
            clear Bx
            have ⟨S0, S1, S2, S3⟩ := S
            have ⟨T0, T1, T2, T3⟩ := T
            have ⟨W0, W1, W2, W3⟩ := W
            have ⟨X0, X1, X2, X3⟩ := X
            have ⟨Y0, Y1, Y2, Y3⟩ := Y
            go_wp2
            go_ret
            exact ⟨rfl, B⟩
          · have z3 : decide (0 ≤ th) = false := decide_eq_false z2
            have ⟨S0, S1, S2, S3⟩ := S
            have ⟨T0, T1, T2, T3⟩ := T
            have ⟨W0, W1, W2, W3⟩ := W
            have ⟨X0, X1, X2, X3⟩ := X
            go_wp2_with fail
            clear S0 S1 S2 S3 T0 T1 T2 T3 W0 W1 W2 W3 X0 X1 X2 X3
            have Sk0 := cell_regrown S.c0
            have Sk1 := cell_regrown S.c1
            have Tk0 := cell_regrown T.c0
            have Tk1 := cell_regrown T.c1
            have Wk0 := cell_regrown W.c0
            have Wk1 := cell_regrown W.c1
            have Xk0 := cell_regrown X.c0
            have Xk1 := cell_regrown X.c1
            have c1 : ∀ d os, Calls Tryd.prog 12 #[SW.spV sl sh] (grow (redrawn w13 d) os) fun e w'' => e = .returned (SW.spV nl nh) ∧ (∃ p : Regrown, w'' = grow (redrawn w13 p.d) p.os) ∧ LQ.Keeps (LK.ndTwo w13.heap.size 7 10 (yl) (yh)) (grow (redrawn w13 d) os) w'' := fun d os => LK.of_below (F3 _ sa (hs1.kept (below_regrown w13 d os)))
            have c2 : ∀ d os, Calls Tryd.prog 18 #[SW.spV nl nh, SW.spV tl th] (grow (redrawn w13 d) os) fun e w'' => e = .returned (.tuple #[SW.spV yl yh, .bool yb]) ∧ (∃ p : Regrown, w'' = grow (redrawn w13 p.d) p.os) ∧ LQ.Keeps (LK.ndTwo w13.heap.size 7 10 (yl) (yh)) (grow (redrawn w13 d) os) w'' := fun d os => LK.of_below (F4 _ sa (hs1.kept (below_regrown w13 d os)))
            refine LQ.region (LK.Cl w13) (LK.ndTwo w13.heap.size 7 10 (yl) (yh)) 9 [0, 1, 2, 3, 4, 5, 6, 7, 8] (LK.ndTwo_local (by kernel_rfl)) (by kernel_rfl) (by kernel_rfl) (fun _ _ h => h) (LK.Cl.start w13 9) ?_
            iterate 1 (refine LQ.stepD rfl rfl (fun N hN => ?_); go_simp; apply Exists.intro; refine ⟨fun _ _ _ => ?_, hN _ _ ?_⟩; exact And.intro rfl rfl; clear hN N)
            refine LQ.stepD rfl rfl (fun N hN => ?_)
            go_simp
            apply Exists.intro
            refine ⟨fun _ _ _ => ?_, hN _ _ ?_⟩
            exact And.intro rfl (c1 _ _)
            clear hN N
            iterate 1 (refine LQ.stepD rfl rfl (fun N hN => ?_); go_simp; apply Exists.intro; refine ⟨fun _ _ _ => ?_, hN _ _ ?_⟩; exact And.intro rfl rfl; clear hN N)
            refine LQ.stepD rfl rfl (fun N hN => ?_)
            go_simp
            apply Exists.intro
            refine ⟨fun _ _ _ => ?_, hN _ _ ?_⟩
            exact And.intro rfl (c2 _ _)
            clear hN N
            iterate 3 (refine LQ.stepD rfl rfl (fun N hN => ?_); go_simp; apply Exists.intro; refine ⟨fun _ _ _ => ?_, hN _ _ ?_⟩; exact And.intro rfl rfl; clear hN N)
            refine LQ.stepN rfl rfl (fun N hN => ?_)
            go_simp
            refine ⟨fun f p _ => LK.alloc w13 p.d p.os 7 10 (yl) (yh) _ _ (by simp [grow]), ?_⟩
            rintro u _ bw14 rfl hbw14 _ _ _
            refine hN _ _ ?_
            clear hN N c1 c2 Sk0 Sk1 Tk0 Tk1 Wk0 Wk1 Xk0 Xk1
            refine LQ.stepN rfl rfl (fun N hN => ?_)
            go_simp
            refine ⟨fun f p hk => ?_, fun _ _ => hN _ _ ?_⟩
            · obtain ⟨x', y', X'⟩ := (hk _ (List.mem_cons_self ..)).2
              have X'' := X'
              obtain ⟨e0, e1, e2, e3⟩ := X''
              clear hk
              go_simp
              exact LK.store1 hbw14 X'
            clear hN N
            refine LQ.lexEnd ?_
            rintro w14 ⟨p, rfl⟩ kn
            have Bx := below_regrown w13 p.d p.os
            have Y : SW.Box (grow (redrawn w13 p.d) p.os) bw14 (yl) (yh) := (kn _ (List.mem_cons_self ..)).2
            clear kn
            generalize grow (redrawn w13 p.d) p.os = w14 at *
            simp only [List.drop]
            replace S := S.kept Bx
            replace T := T.kept Bx
            replace W := W.kept Bx
            replace X := X.kept Bx
            replace hs1 := hs1.kept Bx
            replace B := SW.below1 B Bx
            clear Bx
            have ⟨S0, S1, S2, S3⟩ := S
            have ⟨T0, T1, T2, T3⟩ := T
            have ⟨W0, W1, W2, W3⟩ := W
            have ⟨X0, X1, X2, X3⟩ := X
            have ⟨Y0, Y1, Y2, Y3⟩ := Y
            go_wp2_with fail
            clear S0 S1 S2 S3 T0 T1 T2 T3 W0 W1 W2 W3 X0 X1 X2 X3 Y0 Y1 Y2 Y3
            have Sk0 := cell_regrown S.c0
            have Sk1 := cell_regrown S.c1
            have Tk0 := cell_regrown T.c0
            have Tk1 := cell_regrown T.c1
            have Wk0 := cell_regrown W.c0
            have Wk1 := cell_regrown W.c1
            have Xk0 := cell_regrown X.c0
            have Xk1 := cell_regrown X.c1
            have Yk0 := cell_regrown Y.c0
            have Yk1 := cell_regrown Y.c1
            refine KS.region (by kernel_rfl) (by kernel_rfl) ?_
            repeat (refine KS.step (fun K hK => ?_); go_simp; refine hK _ ?_; clear hK K)
            refine KS.nil ?_
            rintro _ ⟨p, rfl⟩
            have Bx := below_regrown w14 p.d p.os
            generalize grow (redrawn w14 p.d) p.os = w15 at *
            clear Sk0 Sk1 Tk0 Tk1 Wk0 Wk1 Xk0 Xk1 Yk0 Yk1
            replace S := S.kept Bx
            replace T := T.kept Bx
            replace W := W.kept Bx
            replace X := X.kept Bx
            replace Y := Y.kept Bx
            replace hs1 := hs1.kept Bx
            replace B := SW.below1 B Bx
            clear Bx
            have ⟨S0, S1, S2, S3⟩ := S
            have ⟨T0, T1, T2, T3⟩ := T
            have ⟨W0, W1, W2, W3⟩ := W
            have ⟨X0, X1, X2, X3⟩ := X
            have ⟨Y0, Y1, Y2, Y3⟩ := Y
            go_wp2
            go_ret
            exact ⟨rfl, B⟩
        · have z4 : decide (tl ≤ 0) = false := decide_eq_false z1
          have ⟨S0, S1, S2, S3⟩ := S
          have ⟨T0, T1, T2, T3⟩ := T
          have ⟨W0, W1, W2, W3⟩ := W
          have ⟨X0, X1, X2, X3⟩ := X
          go_wp2_with fail
          clear S0 S1 S2 S3 T0 T1 T2 T3 W0 W1 W2 W3 X0 X1 X2 X3
          have Sk0 := cell_regrown S.c0
          have Sk1 := cell_regrown S.c1
          have Tk0 := cell_regrown T.c0
          have Tk1 := cell_regrown T.c1
          have Wk0 := cell_regrown W.c0
          have Wk1 := cell_regrown W.c1
          have Xk0 := cell_regrown X.c0
          have Xk1 := cell_regrown X.c1
          have c1 : ∀ d os, Calls Tryd.prog 12 #[SW.spV sl sh] (grow (redrawn w13 d) os) fun e w'' => e = .returned (SW.spV nl nh) ∧ (∃ p : Regrown, w'' = grow (redrawn w13 p.d) p.os) ∧ LQ.Keeps (LK.ndTwo w13.heap.size 7 10 (yl) (yh)) (grow (redrawn w13 d) os) w'' := fun d os => LK.of_below (F3 _ sa (hs1.kept (below_regrown w13 d os)))
          have c2 : ∀ d os, Calls Tryd.prog 18 #[SW.spV nl nh, SW.spV tl th] (grow (redrawn w13 d) os) fun e w'' => e = .returned (.tuple #[SW.spV yl yh, .bool yb]) ∧ (∃ p : Regrown, w'' = grow (redrawn w13 p.d) p.os) ∧ LQ.Keeps (LK.ndTwo w13.heap.size 7 10 (yl) (yh)) (grow (redrawn w13 d) os) w'' := fun d os => LK.of_below (F4 _ sa (hs1.kept (below_regrown w13 d os)))
          refine LQ.region (LK.Cl w13) (LK.ndTwo w13.heap.size 7 10 (yl) (yh)) 9 [0, 1, 2, 3, 4, 5, 6, 7, 8] (LK.ndTwo_local (by kernel_rfl)) (by kernel_rfl) (by kernel_rfl) (fun _ _ h => h) (LK.Cl.start w13 9) ?_
          iterate 1 (refine LQ.stepD rfl rfl (fun N hN => ?_); go_simp; apply Exists.intro; refine ⟨fun _ _ _ => ?_, hN _ _ ?_⟩; exact And.intro rfl rfl; clear hN N)
          refine LQ.stepD rfl rfl (fun N hN => ?_)
          go_simp
          apply Exists.intro
          refine ⟨fun _ _ _ => ?_, hN _ _ ?_⟩
          exact And.intro rfl (c1 _ _)
          clear hN N
          iterate 1 (refine LQ.stepD rfl rfl (fun N hN => ?_); go_simp; apply Exists.intro; refine ⟨fun _ _ _ => ?_, hN _ _ ?_⟩; exact And.intro rfl rfl; clear hN N)
          refine LQ.stepD rfl rfl (fun N hN => ?_)
          go_simp
          apply Exists.intro
          refine ⟨fun _ _ _ => ?_, hN _ _ ?_⟩
          exact And.intro rfl (c2 _ _)
          clear hN N
          iterate 3 (refine LQ.stepD rfl rfl (fun N hN => ?_); go_simp; apply Exists.intro; refine ⟨fun _ _ _ => ?_, hN _ _ ?_⟩; exact And.intro rfl rfl; clear hN N)
          refine LQ.stepN rfl rfl (fun N hN => ?_)
          go_simp
          refine ⟨fun f p _ => LK.alloc w13 p.d p.os 7 10 (yl) (yh) _ _ (by simp [grow]), ?_⟩
          rintro u _ bw14 rfl hbw14 _ _ _
          refine hN _ _ ?_
          clear hN N c1 c2 Sk0 Sk1 Tk0 Tk1 Wk0 Wk1 Xk0 Xk1
          refine LQ.stepN rfl rfl (fun N hN => ?_)
          go_simp
          refine ⟨fun f p hk => ?_, fun _ _ => hN _ _ ?_⟩
          · obtain ⟨x', y', X'⟩ := (hk _ (List.mem_cons_self ..)).2
            have X'' := X'
            obtain ⟨e0, e1, e2, e3⟩ := X''
            clear hk
            go_simp
            exact LK.store1 hbw14 X'
          clear hN N
          refine LQ.lexEnd ?_
          rintro w14 ⟨p, rfl⟩ kn
          have Bx := below_regrown w13 p.d p.os
          have Y : SW.Box (grow (redrawn w13 p.d) p.os) bw14 (yl) (yh) := (kn _ (List.mem_cons_self ..)).2
          clear kn
          generalize grow (redrawn w13 p.d) p.os = w14 at *
          simp only [List.drop]
          replace S := S.kept Bx
          replace T := T.kept Bx
          replace W := W.kept Bx
          replace X := X.kept Bx
          replace hs1 := hs1.kept Bx
          replace B := SW.below1 B Bx
          clear Bx
          have ⟨S0, S1, S2, S3⟩ := S
          have ⟨T0, T1, T2, T3⟩ := T
          have ⟨W0, W1, W2, W3⟩ := W
          have ⟨X0, X1, X2, X3⟩ := X
          have ⟨Y0, Y1, Y2, Y3⟩ := Y
          go_wp2_with fail
          clear S0 S1 S2 S3 T0 T1 T2 T3 W0 W1 W2 W3 X0 X1 X2 X3 Y0 Y1 Y2 Y3
          have Sk0 := cell_regrown S.c0
          have Sk1 := cell_regrown S.c1
          have Tk0 := cell_regrown T.c0
          have Tk1 := cell_regrown T.c1
          have Wk0 := cell_regrown W.c0
          have Wk1 := cell_regrown W.c1
          have Xk0 := cell_regrown X.c0
          have Xk1 := cell_regrown X.c1
          have Yk0 := cell_regrown Y.c0
          have Yk1 := cell_regrown Y.c1
          refine KS.region (by kernel_rfl) (by kernel_rfl) ?_
          repeat (refine KS.step (fun K hK => ?_); go_simp; refine hK _ ?_; clear hK K)
          refine KS.nil ?_
          rintro _ ⟨p, rfl⟩
          have Bx := below_regrown w14 p.d p.os
          generalize grow (redrawn w14 p.d) p.os = w15 at *
          clear Sk0 Sk1 Tk0 Tk1 Wk0 Wk1 Xk0 Xk1 Yk0 Yk1
          replace S := S.kept Bx
          replace T := T.kept Bx
          replace W := W.kept Bx
          replace X := X.kept Bx
          replace Y := Y.kept Bx
          replace hs1 := hs1.kept Bx
          replace B := SW.below1 B Bx
          clear Bx
          have ⟨S0, S1, S2, S3⟩ := S
          have ⟨T0, T1, T2, T3⟩ := T
          have ⟨W0, W1, W2, W3⟩ := W
          have ⟨X0, X1, X2, X3⟩ := X
          have ⟨Y0, Y1, Y2, Y3⟩ := Y
          go_wp2
          go_ret
          exact ⟨rfl, B⟩
    · obtain ⟨g1, hz, ap, g3⟩ := SM.div_of ho
      obtain ⟨p1, p2, p3⟩ := SM.okS_of hz
      have ht := SM.div_turn ho
      have F3 : ∀ w a, SW.Sn a w → Calls Tryd.prog 12 #[SW.spV sl sh] w fun e w' => e = .returned (SW.spV (-sh) (-sl)) ∧ Below w.heap.size w w' := fun w a hs => by have := SW.spanNeg_any sl sh a w hs; rw [g1] at this; exact this
      have F4 : ∀ w a, SW.Sn a w → Calls Tryd.prog 18 #[SW.spV (-sh) (-sl), SW.spV tl th] w fun e w' => e = .returned (.tuple #[SW.spV (-SM.divHi sl sh tl th) (-SM.divLo sl sh tl th), .bool true]) ∧ Below w.heap.size w w' := fun w a hs => by have := SW.spanDiv_any (-sh) (-sl) tl th a w hs; rw [ht, SM.divLo_neg, SM.divHi_neg] at this; exact this
      have F6 : ∀ w a, SW.Sn a w → Calls Tryd.prog 12 #[SW.spV (SM.divLo sl sh tl th) (SM.divHi sl sh tl th)] w fun e w' => e = .returned (SW.spV (-SM.divHi sl sh tl th) (-SM.divLo sl sh tl th)) ∧ Below w.heap.size w w' := fun w a hs => by have := SW.spanNeg_any (SM.divLo sl sh tl th) (SM.divHi sl sh tl th) a w hs; rw [g3] at this; exact this
      have F1 : ∀ w, Calls Tryd.prog 17 #[SW.spV sl sh, SW.spV tl th] w fun e w' => e = .returned (.tuple #[SW.spV (SM.divLo sl sh tl th) (SM.divHi sl sh tl th), .bool true]) ∧ Below w.heap.size w w' := fun w => by have := SW.sSpanDiv_any sl sh tl th w; rw [ho] at this; exact this
      have F2 : ∀ w a, SW.Sn a w → Calls Tryd.prog 18 #[SW.spV sl sh, SW.spV tl th] w fun e w' => e = .returned (.tuple #[SW.spV (SM.divLo sl sh tl th) (SM.divHi sl sh tl th), .bool true]) ∧ Below w.heap.size w w' := fun w a hs => by have := SW.spanDiv_any sl sh tl th a w hs; rw [ho] at this; exact this
      have ⟨S0, S1, S2, S3⟩ := S
      have ⟨T0, T1, T2, T3⟩ := T
      go_wp2_with fail
      refine (F1 _).mono ?_
      rintro e w11 ⟨rfl, Bx⟩
      clear S0 S1 S2 S3 T0 T1 T2 T3
      replace S := S.kept Bx
      replace T := T.kept Bx
      replace hs1 := hs1.kept Bx
      replace B := SW.below1 B Bx
      clear Bx
      replace S := S.alloc (.cells #[.int .i64 (SM.divLo sl sh tl th), .int .i64 (SM.divHi sl sh tl th)] 24)
      replace T := T.alloc (.cells #[.int .i64 (SM.divLo sl sh tl th), .int .i64 (SM.divHi sl sh tl th)] 24)
      have W := SW.Box.new w11 (SM.divLo sl sh tl th) (SM.divHi sl sh tl th) 24
      replace hs1 := hs1.alloc (.cells #[.int .i64 (SM.divLo sl sh tl th), .int .i64 (SM.divHi sl sh tl th)] 24)
      replace B := SW.below1 B (SW.below_new w11 (.cells #[.int .i64 (SM.divLo sl sh tl th), .int .i64 (SM.divHi sl sh tl th)] 24))
      have ⟨S0, S1, S2, S3⟩ := S
      have ⟨T0, T1, T2, T3⟩ := T
      have ⟨W0, W1, W2, W3⟩ := W
      go_wp2_with fail
      refine (F2 _ sa hs1).mono ?_
      rintro e w12 ⟨rfl, Bx⟩
      clear S0 S1 S2 S3 T0 T1 T2 T3 W0 W1 W2 W3
      replace S := S.kept Bx
      replace T := T.kept Bx
      replace W := W.kept Bx
      replace hs1 := hs1.kept Bx
      replace B := SW.below1 B Bx
      clear Bx
      replace S := S.alloc (.cells #[.int .i64 (SM.divLo sl sh tl th), .int .i64 (SM.divHi sl sh tl th)] 24)
      replace T := T.alloc (.cells #[.int .i64 (SM.divLo sl sh tl th), .int .i64 (SM.divHi sl sh tl th)] 24)
      replace W := W.alloc (.cells #[.int .i64 (SM.divLo sl sh tl th), .int .i64 (SM.divHi sl sh tl th)] 24)
      have X := SW.Box.new w12 (SM.divLo sl sh tl th) (SM.divHi sl sh tl th) 24
      replace hs1 := hs1.alloc (.cells #[.int .i64 (SM.divLo sl sh tl th), .int .i64 (SM.divHi sl sh tl th)] 24)
      replace B := SW.below1 B (SW.below_new w12 (.cells #[.int .i64 (SM.divLo sl sh tl th), .int .i64 (SM.divHi sl sh tl th)] 24))
      clear ho g3 ht F1 F2
      generalize SM.divLo sl sh tl th = dl at *
      generalize SM.divHi sl sh tl th = dh at *
      have F7 : ∀ w, Calls Tryd.prog 19 #[SW.spV tl th] w fun e w' => e = .returned (.bool true) ∧ Below w.heap.size w w' := fun w => by have := SW.sSpanOk_any tl th w; rw [hz] at this; exact this
      have ⟨S0, S1, S2, S3⟩ := S
      have ⟨T0, T1, T2, T3⟩ := T
      have ⟨W0, W1, W2, W3⟩ := W
      have ⟨X0, X1, X2, X3⟩ := X
      go_wp2_with fail
      refine (F7 _).mono ?_
      rintro e w13 ⟨rfl, Bx⟩
      clear S0 S1 S2 S3 T0 T1 T2 T3 W0 W1 W2 W3 X0 X1 X2 X3
      replace S := S.kept Bx
      replace T := T.kept Bx
      replace W := W.kept Bx
      replace X := X.kept Bx
      replace hs1 := hs1.kept Bx
      replace B := SW.below1 B Bx
      clear Bx
      rcases ap with ap | ap
      · have z1 : tl ≤ 0 := by omega
        have z3 : decide (0 ≤ th) = false := decide_eq_false (by omega)
        have ⟨S0, S1, S2, S3⟩ := S
        have ⟨T0, T1, T2, T3⟩ := T
        have ⟨W0, W1, W2, W3⟩ := W
        have ⟨X0, X1, X2, X3⟩ := X
        go_wp2_with fail
        clear S0 S1 S2 S3 T0 T1 T2 T3 W0 W1 W2 W3 X0 X1 X2 X3
        have Sk0 := cell_regrown S.c0
        have Sk1 := cell_regrown S.c1
        have Tk0 := cell_regrown T.c0
        have Tk1 := cell_regrown T.c1
        have Wk0 := cell_regrown W.c0
        have Wk1 := cell_regrown W.c1
        have Xk0 := cell_regrown X.c0
        have Xk1 := cell_regrown X.c1
        have c1 : ∀ d os, Calls Tryd.prog 12 #[SW.spV sl sh] (grow (redrawn w13 d) os) fun e w'' => e = .returned (SW.spV (-sh) (-sl)) ∧ (∃ p : Regrown, w'' = grow (redrawn w13 p.d) p.os) ∧ LQ.Keeps (LK.ndTwo w13.heap.size 7 10 (-dh) (-dl)) (grow (redrawn w13 d) os) w'' := fun d os => LK.of_below (F3 _ sa (hs1.kept (below_regrown w13 d os)))
        have c2 : ∀ d os, Calls Tryd.prog 18 #[SW.spV (-sh) (-sl), SW.spV tl th] (grow (redrawn w13 d) os) fun e w'' => e = .returned (.tuple #[SW.spV (-dh) (-dl), .bool true]) ∧ (∃ p : Regrown, w'' = grow (redrawn w13 p.d) p.os) ∧ LQ.Keeps (LK.ndTwo w13.heap.size 7 10 (-dh) (-dl)) (grow (redrawn w13 d) os) w'' := fun d os => LK.of_below (F4 _ sa (hs1.kept (below_regrown w13 d os)))
        refine LQ.region (LK.Cl w13) (LK.ndTwo w13.heap.size 7 10 (-dh) (-dl)) 9 [0, 1, 2, 3, 4, 5, 6, 7, 8] (LK.ndTwo_local (by kernel_rfl)) (by kernel_rfl) (by kernel_rfl) (fun _ _ h => h) (LK.Cl.start w13 9) ?_
        iterate 1 (refine LQ.stepD rfl rfl (fun N hN => ?_); go_simp; apply Exists.intro; refine ⟨fun _ _ _ => ?_, hN _ _ ?_⟩; exact And.intro rfl rfl; clear hN N)
        refine LQ.stepD rfl rfl (fun N hN => ?_)
        go_simp
        apply Exists.intro
        refine ⟨fun _ _ _ => ?_, hN _ _ ?_⟩
        exact And.intro rfl (c1 _ _)
        clear hN N
        iterate 1 (refine LQ.stepD rfl rfl (fun N hN => ?_); go_simp; apply Exists.intro; refine ⟨fun _ _ _ => ?_, hN _ _ ?_⟩; exact And.intro rfl rfl; clear hN N)
        refine LQ.stepD rfl rfl (fun N hN => ?_)
        go_simp
        apply Exists.intro
        refine ⟨fun _ _ _ => ?_, hN _ _ ?_⟩
        exact And.intro rfl (c2 _ _)
        clear hN N
        iterate 3 (refine LQ.stepD rfl rfl (fun N hN => ?_); go_simp; apply Exists.intro; refine ⟨fun _ _ _ => ?_, hN _ _ ?_⟩; exact And.intro rfl rfl; clear hN N)
        refine LQ.stepN rfl rfl (fun N hN => ?_)
        go_simp
        refine ⟨fun f p _ => LK.alloc w13 p.d p.os 7 10 (-dh) (-dl) _ _ (by simp [grow]), ?_⟩
        rintro u _ bw14 rfl hbw14 _ _ _
        refine hN _ _ ?_
        clear hN N c1 c2 Sk0 Sk1 Tk0 Tk1 Wk0 Wk1 Xk0 Xk1
        refine LQ.stepN rfl rfl (fun N hN => ?_)
        go_simp
        refine ⟨fun f p hk => ?_, fun _ _ => hN _ _ ?_⟩
        · obtain ⟨x', y', X'⟩ := (hk _ (List.mem_cons_self ..)).2
          have X'' := X'
          obtain ⟨e0, e1, e2, e3⟩ := X''
          clear hk
          go_simp
          exact LK.store1 hbw14 X'
        clear hN N
        refine LQ.lexEnd ?_
        rintro w14 ⟨p, rfl⟩ kn
        have Bx := below_regrown w13 p.d p.os
        have Y : SW.Box (grow (redrawn w13 p.d) p.os) bw14 (-dh) (-dl) := (kn _ (List.mem_cons_self ..)).2
        clear kn
        generalize grow (redrawn w13 p.d) p.os = w14 at *
        simp only [List.drop]
        replace S := S.kept Bx
        replace T := T.kept Bx
        replace W := W.kept Bx
        replace X := X.kept Bx
        replace hs1 := hs1.kept Bx
        replace B := SW.below1 B Bx
        clear Bx
        have ⟨S0, S1, S2, S3⟩ := S
        have ⟨T0, T1, T2, T3⟩ := T
        have ⟨W0, W1, W2, W3⟩ := W
        have ⟨X0, X1, X2, X3⟩ := X
        have ⟨Y0, Y1, Y2, Y3⟩ := Y
        go_wp2_with fail
        clear S0 S1 S2 S3 T0 T1 T2 T3 W0 W1 W2 W3 X0 X1 X2 X3 Y0 Y1 Y2 Y3
        have Sk0 := cell_regrown S.c0
        have Sk1 := cell_regrown S.c1
        have Tk0 := cell_regrown T.c0
        have Tk1 := cell_regrown T.c1
        have Wk0 := cell_regrown W.c0
        have Wk1 := cell_regrown W.c1
        have Xk0 := cell_regrown X.c0
        have Xk1 := cell_regrown X.c1
        have Yk0 := cell_regrown Y.c0
        have Yk1 := cell_regrown Y.c1
        have c1 : ∀ d os, Calls Tryd.prog 12 #[SW.spV dl dh] (grow (redrawn w14 d) os) fun e w'' => e = .returned (SW.spV (-dh) (-dl)) ∧ ∃ p : Regrown, w'' = grow (redrawn w14 p.d) p.os := fun d os => Calls.regrown_of (F6 _ sa (hs1.kept (below_regrown w14 d os)))
        refine KS.region (by kernel_rfl) (by kernel_rfl) ?_
        repeat (refine KS.step (fun K hK => ?_); go_simp; refine hK _ ?_; clear hK K)
        refine KS.step (fun K hK => ?_)
        go_simp
        apply Exists.intro
        refine ⟨fun _ => ?_, hK _ ?_⟩
        exact c1 _ _
        clear hK K
        repeat (refine KS.step (fun K hK => ?_); go_simp; refine hK _ ?_; clear hK K)
        refine KS.nil ?_
        rintro _ ⟨p, rfl⟩
        have Bx := below_regrown w14 p.d p.os
        generalize grow (redrawn w14 p.d) p.os = w15 at *
        clear c1 Sk0 Sk1 Tk0 Tk1 Wk0 Wk1 Xk0 Xk1 Yk0 Yk1
        replace S := S.kept Bx
        replace T := T.kept Bx
        replace W := W.kept Bx
        replace X := X.kept Bx
        replace Y := Y.kept Bx
        replace hs1 := hs1.kept Bx
        replace B := SW.below1 B Bx
        clear Bx
        have ⟨S0, S1, S2, S3⟩ := S
        have ⟨T0, T1, T2, T3⟩ := T
        have ⟨W0, W1, W2, W3⟩ := W
        have ⟨X0, X1, X2, X3⟩ := X
        have ⟨Y0, Y1, Y2, Y3⟩ := Y
        go_wp2
        go_ret
        exact ⟨rfl, B⟩
      · have z4 : decide (tl ≤ 0) = false := decide_eq_false (by omega)
        have ⟨S0, S1, S2, S3⟩ := S
        have ⟨T0, T1, T2, T3⟩ := T
        have ⟨W0, W1, W2, W3⟩ := W
        have ⟨X0, X1, X2, X3⟩ := X
        go_wp2_with fail
        clear S0 S1 S2 S3 T0 T1 T2 T3 W0 W1 W2 W3 X0 X1 X2 X3
        have Sk0 := cell_regrown S.c0
        have Sk1 := cell_regrown S.c1
        have Tk0 := cell_regrown T.c0
        have Tk1 := cell_regrown T.c1
        have Wk0 := cell_regrown W.c0
        have Wk1 := cell_regrown W.c1
        have Xk0 := cell_regrown X.c0
        have Xk1 := cell_regrown X.c1
        have c1 : ∀ d os, Calls Tryd.prog 12 #[SW.spV sl sh] (grow (redrawn w13 d) os) fun e w'' => e = .returned (SW.spV (-sh) (-sl)) ∧ (∃ p : Regrown, w'' = grow (redrawn w13 p.d) p.os) ∧ LQ.Keeps (LK.ndTwo w13.heap.size 7 10 (-dh) (-dl)) (grow (redrawn w13 d) os) w'' := fun d os => LK.of_below (F3 _ sa (hs1.kept (below_regrown w13 d os)))
        have c2 : ∀ d os, Calls Tryd.prog 18 #[SW.spV (-sh) (-sl), SW.spV tl th] (grow (redrawn w13 d) os) fun e w'' => e = .returned (.tuple #[SW.spV (-dh) (-dl), .bool true]) ∧ (∃ p : Regrown, w'' = grow (redrawn w13 p.d) p.os) ∧ LQ.Keeps (LK.ndTwo w13.heap.size 7 10 (-dh) (-dl)) (grow (redrawn w13 d) os) w'' := fun d os => LK.of_below (F4 _ sa (hs1.kept (below_regrown w13 d os)))
        refine LQ.region (LK.Cl w13) (LK.ndTwo w13.heap.size 7 10 (-dh) (-dl)) 9 [0, 1, 2, 3, 4, 5, 6, 7, 8] (LK.ndTwo_local (by kernel_rfl)) (by kernel_rfl) (by kernel_rfl) (fun _ _ h => h) (LK.Cl.start w13 9) ?_
        iterate 1 (refine LQ.stepD rfl rfl (fun N hN => ?_); go_simp; apply Exists.intro; refine ⟨fun _ _ _ => ?_, hN _ _ ?_⟩; exact And.intro rfl rfl; clear hN N)
        refine LQ.stepD rfl rfl (fun N hN => ?_)
        go_simp
        apply Exists.intro
        refine ⟨fun _ _ _ => ?_, hN _ _ ?_⟩
        exact And.intro rfl (c1 _ _)
        clear hN N
        iterate 1 (refine LQ.stepD rfl rfl (fun N hN => ?_); go_simp; apply Exists.intro; refine ⟨fun _ _ _ => ?_, hN _ _ ?_⟩; exact And.intro rfl rfl; clear hN N)
        refine LQ.stepD rfl rfl (fun N hN => ?_)
        go_simp
        apply Exists.intro
        refine ⟨fun _ _ _ => ?_, hN _ _ ?_⟩
        exact And.intro rfl (c2 _ _)
        clear hN N
        iterate 3 (refine LQ.stepD rfl rfl (fun N hN => ?_); go_simp; apply Exists.intro; refine ⟨fun _ _ _ => ?_, hN _ _ ?_⟩; exact And.intro rfl rfl; clear hN N)
        refine LQ.stepN rfl rfl (fun N hN => ?_)
        go_simp
        refine ⟨fun f p _ => LK.alloc w13 p.d p.os 7 10 (-dh) (-dl) _ _ (by simp [grow]), ?_⟩
        rintro u _ bw14 rfl hbw14 _ _ _
        refine hN _ _ ?_
        clear hN N c1 c2 Sk0 Sk1 Tk0 Tk1 Wk0 Wk1 Xk0 Xk1
        refine LQ.stepN rfl rfl (fun N hN => ?_)
        go_simp
        refine ⟨fun f p hk => ?_, fun _ _ => hN _ _ ?_⟩
        · obtain ⟨x', y', X'⟩ := (hk _ (List.mem_cons_self ..)).2
          have X'' := X'
          obtain ⟨e0, e1, e2, e3⟩ := X''
          clear hk
          go_simp
          exact LK.store1 hbw14 X'
        clear hN N
        refine LQ.lexEnd ?_
        rintro w14 ⟨p, rfl⟩ kn
        have Bx := below_regrown w13 p.d p.os
        have Y : SW.Box (grow (redrawn w13 p.d) p.os) bw14 (-dh) (-dl) := (kn _ (List.mem_cons_self ..)).2
        clear kn
        generalize grow (redrawn w13 p.d) p.os = w14 at *
        simp only [List.drop]
        replace S := S.kept Bx
        replace T := T.kept Bx
        replace W := W.kept Bx
        replace X := X.kept Bx
        replace hs1 := hs1.kept Bx
        replace B := SW.below1 B Bx
        clear Bx
        have ⟨S0, S1, S2, S3⟩ := S
        have ⟨T0, T1, T2, T3⟩ := T
        have ⟨W0, W1, W2, W3⟩ := W
        have ⟨X0, X1, X2, X3⟩ := X
        have ⟨Y0, Y1, Y2, Y3⟩ := Y
        go_wp2_with fail
        clear S0 S1 S2 S3 T0 T1 T2 T3 W0 W1 W2 W3 X0 X1 X2 X3 Y0 Y1 Y2 Y3
        have Sk0 := cell_regrown S.c0
        have Sk1 := cell_regrown S.c1
        have Tk0 := cell_regrown T.c0
        have Tk1 := cell_regrown T.c1
        have Wk0 := cell_regrown W.c0
        have Wk1 := cell_regrown W.c1
        have Xk0 := cell_regrown X.c0
        have Xk1 := cell_regrown X.c1
        have Yk0 := cell_regrown Y.c0
        have Yk1 := cell_regrown Y.c1
        have c1 : ∀ d os, Calls Tryd.prog 12 #[SW.spV dl dh] (grow (redrawn w14 d) os) fun e w'' => e = .returned (SW.spV (-dh) (-dl)) ∧ ∃ p : Regrown, w'' = grow (redrawn w14 p.d) p.os := fun d os => Calls.regrown_of (F6 _ sa (hs1.kept (below_regrown w14 d os)))
        refine KS.region (by kernel_rfl) (by kernel_rfl) ?_
        repeat (refine KS.step (fun K hK => ?_); go_simp; refine hK _ ?_; clear hK K)
        refine KS.step (fun K hK => ?_)
        go_simp
        apply Exists.intro
        refine ⟨fun _ => ?_, hK _ ?_⟩
        exact c1 _ _
        clear hK K
        repeat (refine KS.step (fun K hK => ?_); go_simp; refine hK _ ?_; clear hK K)
        refine KS.nil ?_
        rintro _ ⟨p, rfl⟩
        have Bx := below_regrown w14 p.d p.os
        generalize grow (redrawn w14 p.d) p.os = w15 at *
        clear c1 Sk0 Sk1 Tk0 Tk1 Wk0 Wk1 Xk0 Xk1 Yk0 Yk1
        replace S := S.kept Bx
        replace T := T.kept Bx
        replace W := W.kept Bx
        replace X := X.kept Bx
        replace Y := Y.kept Bx
        replace hs1 := hs1.kept Bx
        replace B := SW.below1 B Bx
        clear Bx
        have ⟨S0, S1, S2, S3⟩ := S
        have ⟨T0, T1, T2, T3⟩ := T
        have ⟨W0, W1, W2, W3⟩ := W
        have ⟨X0, X1, X2, X3⟩ := X
        have ⟨Y0, Y1, Y2, Y3⟩ := Y
        go_wp2
        go_ret
        exact ⟨rfl, B⟩
  · go_enter Tryd.func6, Tryd.ntmps6
    go_wp2
    go_ret
    exact ⟨rfl, Below.refl _ _⟩

set_option maxRecDepth 100000 in
theorem lifted (os : Os) (started : os.Started) (H : Type) (enc : TypeId × Value → H) :
    ReturnsInHanded {} Tryd.checked os 6 .any (fun w args => (Rows.fnSpanDivNoneSpec.pre enc Tryd.prog Tryd.f6 [] false w args ∧ laidMetH Tryd.prog DR.laid1 w) ∧ sizedMet enc Tryd.prog Tryd.f6 (OpenSpec.ofChange Rows.fnSpanDivNoneSpec) false w args)
      (Rows.fnSpanDivNoneSpec.post enc Tryd.prog Tryd.f6 false true false false) := by
  refine returnsInHanded_of_change_and (C := Tryd.checked) (X := fun w _ => laidMetH Tryd.prog DR.laid1 w) (fun _ _ _ hh h => h.of_heap hh) own started (by kernel_rfl) Tryd.func6
    (ChangeSpec.witness_shaped (enc := enc) (C := Tryd.checked) (os := os) (X := fun w _ => laidMetH Tryd.prog DR.laid1 w) false (World.doorLaid Tryd.prog 400 os) #[.slice none 0 0] 8 rfl (World.shaped_of_RefB (by kernel_rfl) (by kernel_rfl)) (by kernel_rfl) (by kernel_rfl) (by kernel_rfl) (DR.door_met os _)) ?_
  intro W base args ds gs before hval0 hW _ _ hL _
  have hval : ∀ (j : Nat) t v, Tryd.f6.params[j]? = some t → args[j]? = some v → Value.okWide Tryd.prog W .any base t v := hval0
  have hW' := hW
  obtain ⟨p, q, hA0, hV, rfl, hfz, hnd⟩ := hW
  have hA : DataW.TrodAll enc Tryd.prog W 0 (fun _ => true) true Tryd.f6.params.toList args.toList ds p := hA0
  rw [Tryd.params6] at hA hval
  obtain ⟨v0, vs0, d0, ds0, p0, q0, hargs0, rfl, rfl, h0, r0⟩ := trodAll_cons hA
  obtain ⟨rfl, rfl, rfl⟩ := trodAll_nil r0
  obtain rfl : args = #[v0] := by cases args; simp_all
  obtain ⟨sa, hv, hs⟩ := DR.of_laid hL
  obtain ⟨rfl, rfl⟩ := DataW.TrodVars.unique hV (DR.vars_read enc hv _)
  obtain ⟨a0, len0, cap0, rfl⟩ := okWide_slice Tryd.underlying22 (hval 0 22 v0 rfl rfl)
  have k0 := h0
  have lt0 : ∀ x ∈ p0, x.block < W.heap.size := by obtain ⟨m, hm⟩ := k0; exact DataW.trod_lt m _ _ _ hm
  obtain ⟨z0, w0⟩ : ∃ zs, IsRow .u8 W a0 len0 cap0 zs := by
    obtain ⟨fuel, hf⟩ := h0
    rcases open_ints Tryd.underlying22 Tryd.underlying5 (by kernel_rfl) hf with ⟨hcs, _⟩ | ⟨x, l, c, zs, hcs, _, hl, hm, hz, _, hcell, hwz⟩
    · simp [Value.cells] at hcs
      obtain ⟨rfl, rfl, rfl⟩ := hcs
      exact ⟨[], .inl ⟨rfl, rfl, rfl, rfl⟩⟩
    · simp [Value.cells] at hcs
      obtain ⟨rfl, rfl, rfl⟩ := hcs
      exact ⟨zs, .inr ⟨_, rfl, hl, hm, by simpa using hz, hcell, hwz⟩⟩
  clear hA0 hval0
  refine (walk a0 len0 cap0 z0 sa W w0 hs).mono fun e W' ⟨he, bel⟩ => ?_
  subst he
  exact ⟨_, rfl, _, _, _, [], _, [.cell 0 0], hW', trodAll_mk1 (shut_bool Tryd.underlying4 _), (trodAll_cons_mk (Below.trod laidOut (by kernel_rfl) (of_decide_eq_true (by kernel_rfl)) k0 bel lt0) trodAll_mk0), DR.vars_read enc (DR.var_below hv bel) _, bel.frame _, fun h => by cases h⟩

theorem said : Rows.FnSpanDivNoneSaid :=
  OpenClaim.holds_of_wide 6 Tryd.f6 rfl rfl rfl rfl rfl rfl rfl ⟨rfl, rfl, rfl, rfl, rfl⟩ rfl rfl rfl rfl rfl (by kernel_rfl) Tryd.func6 (by kernel_rfl)
    (of_decide_eq_true (by kernel_rfl)) (by unfold Func.isWrapper; first | (rw [if_pos (by decide +kernel)]; kernel_rfl) | (rw [if_neg (by decide +kernel)]; exact ⟨rfl, rfl⟩))
    (fun os started H enc _ => lifted os started H enc)

theorem plain (f : FuncId) (fn : Func) (hf : Tryd.pinned.checked.prog.funcNamed "loop.example/alidade/laws.FnSpanDivNone" = some f) (hfn : Tryd.pinned.checked.prog.funcs[f]? = some fn) :
    true = Tryd.pinned.checked.prog.looks [] ∧ ∀ (j : Nat) t, fn.params[j]? = some t → Tryd.pinned.checked.prog.wantsStandIn t = false := by
  obtain rfl : f = 6 := Option.some.inj ((show Tryd.prog.funcNamed "loop.example/alidade/laws.FnSpanDivNone" = some 6 by kernel_rfl).symm.trans hf) |>.symm
  obtain rfl : fn = Tryd.f6 := (Option.some.inj (Tryd.func6.symm.trans hfn)).symm
  refine ⟨by kernel_rfl, fun j t ht => ?_⟩
  rw [Tryd.params6] at ht
  have hm : t ∈ [22] := by
    have := Array.mem_of_getElem? ht
    simpa using this
  have hall : ([22].all fun u => !Tryd.prog.wantsStandIn u) = true := by kernel_rfl
  exact (show Tryd.prog.wantsStandIn t = false by simpa using List.all_eq_true.1 hall t hm)

theorem card : Rows.FnSpanDivNoneCardSaid :=
  Claim7.holds_tied_plain_at .later [] _ _ _ _ said (fun _ h => by cases h) (by kernel_rfl) (fun _ h => by cases h) fnSpanDivNone_row_tie rfl ⟨rfl, rfl⟩ (by kernel_rfl) rfl plain (by kernel_rfl)
end Go.Proofs.YtpddpekencccladDoor.fnSpanDivNone
namespace Go.Proofs.YtpddpekencccladDoor
theorem fnSpanDivNone_holds : Rows.FnSpanDivNoneCardSaid := fnSpanDivNone.card
#print axioms fnSpanDivNone_holds
end Go.Proofs.YtpddpekencccladDoor
