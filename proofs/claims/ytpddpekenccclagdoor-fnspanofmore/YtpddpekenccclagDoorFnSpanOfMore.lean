/-
  For every code of bytes the law returns true: SpanOf of a greater number is not less, and of the contrary it is turned about. The package's variable errTooGreat is as the program's text lays it.
-/
import Derived.Test.YtpddpekenccclagDoorCards
import Derived.Test.YtpddpekenccclagDoorTie
import Derived.Test.YtpddpekenccclagDoorDoorKit
import Derived.WalkKit
import Derived.ProofKit
import Derived.OpenShut
import Derived.ShutString
import Derived.ChangeOld
import Derived.Below
import Derived.LaidMore
import Derived.Stop.Joined
import Derived.SevenTiedAt
import Derived.Test.YtpddpekenccclagDoorDrawKit
import Derived.Test.YtpddpekenccclagDoorDrawWalks
import Derived.Test.YtpddpekenccclagDoorDrawSpan
import Derived.Test.YtpddpekenccclagDoorSpanWalks
import Derived.Test.YtpddpekenccclagDoorSpanWalks2
import Derived.Test.YtpddpekenccclagDoorKeptStep
namespace Go.Proofs.YtpddpekenccclagDoor.fnSpanOfMore
open Go.ChangeShapes Go.WideShapes Go.ChangeAt Go.RowKit Go.Sort
set_option linter.unusedVariables false

theorem own : ownKnob Tryd.prog.godebug = none := by kernel_rfl
theorem laidOut : laidOutB Tryd.prog = true := by kernel_rfl
/-- What the walk is told of a slice of bytes that came in. -/
def IsRow (k : IntKind) (w : World) (a : Option Addr) (len cap : Nat) (zs : List Int) : Prop :=
  (a = none ∧ len = 0 ∧ cap = 0 ∧ zs = []) ∨
  ∃ x, a = some x ∧ len ≤ cap ∧ cap ≤ maxLen ∧ zs.length = cap ∧ (∀ i, i < zs.length → w.cell? (x.add i) = some (.int k (zs.getD i 0))) ∧ ∀ n ∈ zs, (Lit.int k n).wf = true
theorem add_none (b off i : Nat) : (⟨b, off, none⟩ : Addr).add i = ⟨b, off + i, none⟩ := by
  unfold Addr.add
  split
  · rename_i h
    subst h
    rfl
  · rfl
theorem src {w : World} {a : Option Addr} {len cap : Nat} {zs : List Int} (h : IsRow .u8 w a len cap zs) : DK.Src w a len cap := by
  rcases h with ⟨rfl, rfl, rfl, rfl⟩ | ⟨x, rfl, hl, hm, hz, hcell, hwz⟩
  · exact ⟨by omega, by omega, .inl rfl⟩
  · unfold maxLen at hm
    refine ⟨hl, by omega, ?_⟩
    by_cases h0 : len = 0
    · exact .inl h0
    · obtain ⟨b, off, spot⟩ := x
      have hc := hcell 0 (by omega)
      have hspot : spot = none := by simpa [Addr.add] using World.cell?_spot hc
      subst hspot
      refine .inr ⟨b, off, rfl, fun i hi => ?_⟩
      have hi2 : i < zs.length := by omega
      have hb := bounds_u8 (hwz (zs.getD i 0) (by simp [List.getD, hi2]))
      have hci := hcell i hi2
      rw [add_none] at hci
      exact ⟨zs.getD i 0, hb.1, hb.2, hci⟩


set_option maxHeartbeats 8000000 in
theorem walk (a0 : Option Addr) (len0 cap0 : Nat) (z0 : List Int) (a1 : Option Addr) (len1 cap1 : Nat) (z1 : List Int) (sa : Addr) (w : World) (w0 : IsRow .u8 w a0 len0 cap0 z0) (w1' : IsRow .u8 w a1 len1 cap1 z1) (hs : SW.Sn sa w) :
    Calls Tryd.prog 3 #[.slice a0 len0 cap0, .slice a1 len1 cap1] w fun e w' => e = .returned (.bool true) ∧ Below w.heap.size w w' := by
  by_cases hl : (len0 : Int) ≤ 1048576
  · by_cases hm : (len1 : Int) ≤ 1048576
    · go_enter Tryd.func3, Tryd.ntmps3
      go_wp2_with fail
      refine (DW.drawSpanOf_any _ _ _ _ (src w0)).mono ?_
      rintro e w1 ⟨x, y, rfl, x0, x1, y0, y1, B⟩
      have hs1 := hs.kept B
      cases ho : SM.ofB x y
      · have F1 : ∀ w, Calls Tryd.prog 5 #[.int .i64 x, .int .i64 y] w fun e w' => e = .returned (.tuple #[SW.spV 0 0, .bool false]) ∧ Below w.heap.size w w' := fun w => by have := SW.sSpanOf_any x y w; rw [ho] at this; exact this
        have F2 : ∀ w a, SW.Sn a w → Calls Tryd.prog 6 #[.int .i64 x, .int .i64 y] w fun e w' => e = .returned (.tuple #[SW.spV 0 0, .bool false]) ∧ Below w.heap.size w w' := fun w a hs => by have := SW.spanOf_any x y a w hs; rw [ho] at this; exact this
        go_wp2_with fail
        refine (F1 _).mono ?_
        rintro e w11 ⟨rfl, Bx⟩
        replace hs1 := hs1.kept Bx
        replace B := SW.below1 B Bx
        clear Bx
        have W := SW.Box.new w11 (0) (0) 26
        replace hs1 := hs1.alloc (.cells #[.int .i64 (0), .int .i64 (0)] 26)
        replace B := SW.below1 B (SW.below_new w11 (.cells #[.int .i64 (0), .int .i64 (0)] 26))
        have ⟨W0, W1, W2, W3⟩ := W
        go_wp2_with fail
        refine (F2 _ sa hs1).mono ?_
        rintro e w12 ⟨rfl, Bx⟩
        clear W0 W1 W2 W3
        replace W := W.kept Bx
        replace hs1 := hs1.kept Bx
        replace B := SW.below1 B Bx
        clear Bx
        replace W := W.alloc (.cells #[.int .i64 (0), .int .i64 (0)] 26)
        have X := SW.Box.new w12 (0) (0) 26
        replace hs1 := hs1.alloc (.cells #[.int .i64 (0), .int .i64 (0)] 26)
        replace B := SW.below1 B (SW.below_new w12 (.cells #[.int .i64 (0), .int .i64 (0)] 26))
        have ⟨W0, W1, W2, W3⟩ := W
        have ⟨X0, X1, X2, X3⟩ := X
        go_wp2
        go_ret
        exact ⟨rfl, B⟩
      · cases hf : SM.ofB (x + len1) y
        · obtain ⟨hr, hk⟩ := SM.of_ok ho
          obtain ⟨r1, r2, r3, r4⟩ := SM.ratB_of hr
          obtain ⟨o1, o2, o3⟩ := SM.okS_of hk
          have hng := SM.of_neg ho
          have F1 : ∀ w, Calls Tryd.prog 5 #[.int .i64 x, .int .i64 y] w fun e w' => e = .returned (.tuple #[SW.spV (SM.ofLo x y) (SM.ofHi x y), .bool true]) ∧ Below w.heap.size w w' := fun w => by have := SW.sSpanOf_any x y w; rw [ho] at this; exact this
          have F2 : ∀ w a, SW.Sn a w → Calls Tryd.prog 6 #[.int .i64 x, .int .i64 y] w fun e w' => e = .returned (.tuple #[SW.spV (SM.ofLo x y) (SM.ofHi x y), .bool true]) ∧ Below w.heap.size w w' := fun w a hs => by have := SW.spanOf_any x y a w hs; rw [ho] at this; exact this
          have F4 : ∀ w a, SW.Sn a w → Calls Tryd.prog 6 #[.int .i64 (-x), .int .i64 y] w fun e w' => e = .returned (.tuple #[SW.spV (-SM.ofHi x y) (-SM.ofLo x y), .bool true]) ∧ Below w.heap.size w w' := fun w a hs => by have := SW.spanOf_any (-x) y a w hs; rw [hng, SM.ofLo_neg, SM.ofHi_neg] at this; exact this
          have F5 : ∀ w a, SW.Sn a w → Calls Tryd.prog 7 #[SW.spV (SM.ofLo x y) (SM.ofHi x y)] w fun e w' => e = .returned (SW.spV (-SM.ofHi x y) (-SM.ofLo x y)) ∧ Below w.heap.size w w' := fun w a hs => by have := SW.spanNeg_any (SM.ofLo x y) (SM.ofHi x y) a w hs; rw [hk] at this; exact this
          have F3 : ∀ w a, SW.Sn a w → Calls Tryd.prog 6 #[.int .i64 (x + len1), .int .i64 y] w fun e w' => e = .returned (.tuple #[SW.spV (0) (0), .bool false]) ∧ Below w.heap.size w w' := fun w a hs => by have := SW.spanOf_any (x + len1) y a w hs; rw [hf] at this; exact this
          clear ho hf hng hr hk
          generalize SM.ofLo x y = lo at *
          generalize SM.ofHi x y = hi at *
          go_wp2_with fail
          refine (F1 _).mono ?_
          rintro e w11 ⟨rfl, Bx⟩
          replace hs1 := hs1.kept Bx
          replace B := SW.below1 B Bx
          clear Bx
          have W := SW.Box.new w11 (lo) (hi) 26
          replace hs1 := hs1.alloc (.cells #[.int .i64 (lo), .int .i64 (hi)] 26)
          replace B := SW.below1 B (SW.below_new w11 (.cells #[.int .i64 (lo), .int .i64 (hi)] 26))
          have ⟨W0, W1, W2, W3⟩ := W
          go_wp2_with fail
          refine (F2 _ sa hs1).mono ?_
          rintro e w12 ⟨rfl, Bx⟩
          clear W0 W1 W2 W3
          replace W := W.kept Bx
          replace hs1 := hs1.kept Bx
          replace B := SW.below1 B Bx
          clear Bx
          replace W := W.alloc (.cells #[.int .i64 (lo), .int .i64 (hi)] 26)
          have X := SW.Box.new w12 (lo) (hi) 26
          replace hs1 := hs1.alloc (.cells #[.int .i64 (lo), .int .i64 (hi)] 26)
          replace B := SW.below1 B (SW.below_new w12 (.cells #[.int .i64 (lo), .int .i64 (hi)] 26))
          have ⟨W0, W1, W2, W3⟩ := W
          have ⟨X0, X1, X2, X3⟩ := X
          go_wp2_with fail
          refine (F3 _ sa hs1).mono ?_
          rintro e w13 ⟨rfl, Bx⟩
          clear W0 W1 W2 W3 X0 X1 X2 X3
          replace W := W.kept Bx
          replace X := X.kept Bx
          replace hs1 := hs1.kept Bx
          replace B := SW.below1 B Bx
          clear Bx
          replace W := W.alloc (.cells #[.int .i64 (0), .int .i64 (0)] 26)
          replace X := X.alloc (.cells #[.int .i64 (0), .int .i64 (0)] 26)
          have Z := SW.Box.new w13 (0) (0) 26
          replace hs1 := hs1.alloc (.cells #[.int .i64 (0), .int .i64 (0)] 26)
          replace B := SW.below1 B (SW.below_new w13 (.cells #[.int .i64 (0), .int .i64 (0)] 26))
          have ⟨W0, W1, W2, W3⟩ := W
          have ⟨X0, X1, X2, X3⟩ := X
          have ⟨Z0, Z1, Z2, Z3⟩ := Z
          go_wp2_with fail
          refine (F4 _ sa hs1).mono ?_
          rintro e w14 ⟨rfl, Bx⟩
          clear W0 W1 W2 W3 X0 X1 X2 X3 Z0 Z1 Z2 Z3
          replace W := W.kept Bx
          replace X := X.kept Bx
          replace Z := Z.kept Bx
          replace hs1 := hs1.kept Bx
          replace B := SW.below1 B Bx
          clear Bx
          replace W := W.alloc (.cells #[.int .i64 (-hi), .int .i64 (-lo)] 26)
          replace X := X.alloc (.cells #[.int .i64 (-hi), .int .i64 (-lo)] 26)
          replace Z := Z.alloc (.cells #[.int .i64 (-hi), .int .i64 (-lo)] 26)
          have V := SW.Box.new w14 (-hi) (-lo) 26
          replace hs1 := hs1.alloc (.cells #[.int .i64 (-hi), .int .i64 (-lo)] 26)
          replace B := SW.below1 B (SW.below_new w14 (.cells #[.int .i64 (-hi), .int .i64 (-lo)] 26))
          have ⟨W0, W1, W2, W3⟩ := W
          have ⟨X0, X1, X2, X3⟩ := X
          have ⟨Z0, Z1, Z2, Z3⟩ := Z
          have ⟨V0, V1, V2, V3⟩ := V
          go_wp2_with fail
          clear W0 W1 W2 W3 X0 X1 X2 X3 Z0 Z1 Z2 Z3 V0 V1 V2 V3
          generalize hww15 : (w14.alloc (.cells #[.int .i64 (-hi), .int .i64 (-lo)] 26)) = w15 at *
          clear hww15
          have Wk0 := cell_regrown W.c0
          have Wk1 := cell_regrown W.c1
          have Xk0 := cell_regrown X.c0
          have Xk1 := cell_regrown X.c1
          have Zk0 := cell_regrown Z.c0
          have Zk1 := cell_regrown Z.c1
          have Vk0 := cell_regrown V.c0
          have Vk1 := cell_regrown V.c1
          have c1 : ∀ d os, Calls Tryd.prog 7 #[SW.spV lo hi] (grow (redrawn w15 d) os) fun e w'' => e = .returned (SW.spV (-hi) (-lo)) ∧ ∃ p : Regrown, w'' = grow (redrawn w15 p.d) p.os := fun d os => Calls.regrown_of (F5 _ sa (hs1.kept (below_regrown w15 d os)))
          refine KS.region (by kernel_rfl) (by kernel_rfl) ?_
          repeat (refine KS.step (fun K hK => ?_); go_simp; refine hK _ ?_; clear hK K)
          refine KS.step (fun K hK => ?_)
          go_simp
          apply Exists.intro
          refine ⟨fun _ => ?_, hK _ ?_⟩
          exact c1 _ _
          clear hK K
          repeat (refine KS.step (fun K hK => ?_); go_simp; refine hK _ ?_; clear hK K)
          refine KS.nil ?_
          rintro _ ⟨p, rfl⟩
          have Bx := below_regrown w15 p.d p.os
          generalize grow (redrawn w15 p.d) p.os = w16 at *
          clear c1 Wk0 Wk1 Xk0 Xk1 Zk0 Zk1 Vk0 Vk1
          replace W := W.kept Bx
          replace X := X.kept Bx
          replace Z := Z.kept Bx
          replace V := V.kept Bx
          replace hs1 := hs1.kept Bx
          replace B := SW.below1 B Bx
          clear Bx
          have ⟨W0, W1, W2, W3⟩ := W
          have ⟨X0, X1, X2, X3⟩ := X
          have ⟨Z0, Z1, Z2, Z3⟩ := Z
          have ⟨V0, V1, V2, V3⟩ := V
          go_wp2
          go_ret
          exact ⟨rfl, B⟩
        · obtain ⟨hr, hk⟩ := SM.of_ok ho
          obtain ⟨r1, r2, r3, r4⟩ := SM.ratB_of hr
          obtain ⟨o1, o2, o3⟩ := SM.okS_of hk
          have hng := SM.of_neg ho
          have F1 : ∀ w, Calls Tryd.prog 5 #[.int .i64 x, .int .i64 y] w fun e w' => e = .returned (.tuple #[SW.spV (SM.ofLo x y) (SM.ofHi x y), .bool true]) ∧ Below w.heap.size w w' := fun w => by have := SW.sSpanOf_any x y w; rw [ho] at this; exact this
          have F2 : ∀ w a, SW.Sn a w → Calls Tryd.prog 6 #[.int .i64 x, .int .i64 y] w fun e w' => e = .returned (.tuple #[SW.spV (SM.ofLo x y) (SM.ofHi x y), .bool true]) ∧ Below w.heap.size w w' := fun w a hs => by have := SW.spanOf_any x y a w hs; rw [ho] at this; exact this
          have F4 : ∀ w a, SW.Sn a w → Calls Tryd.prog 6 #[.int .i64 (-x), .int .i64 y] w fun e w' => e = .returned (.tuple #[SW.spV (-SM.ofHi x y) (-SM.ofLo x y), .bool true]) ∧ Below w.heap.size w w' := fun w a hs => by have := SW.spanOf_any (-x) y a w hs; rw [hng, SM.ofLo_neg, SM.ofHi_neg] at this; exact this
          have F5 : ∀ w a, SW.Sn a w → Calls Tryd.prog 7 #[SW.spV (SM.ofLo x y) (SM.ofHi x y)] w fun e w' => e = .returned (SW.spV (-SM.ofHi x y) (-SM.ofLo x y)) ∧ Below w.heap.size w w' := fun w a hs => by have := SW.spanNeg_any (SM.ofLo x y) (SM.ofHi x y) a w hs; rw [hk] at this; exact this
          have F3 : ∀ w a, SW.Sn a w → Calls Tryd.prog 6 #[.int .i64 (x + len1), .int .i64 y] w fun e w' => e = .returned (.tuple #[SW.spV (SM.ofLo (x + len1) y) (SM.ofHi (x + len1) y), .bool true]) ∧ Below w.heap.size w w' := fun w a hs => by have := SW.spanOf_any (x + len1) y a w hs; rw [hf] at this; exact this
          have q1 : SM.ofLo x y ≤ SM.ofLo (x + len1) y := SM.ofLo_mono (by omega) (by omega)
          have q2 : SM.ofHi x y ≤ SM.ofHi (x + len1) y := SM.ofHi_mono (by omega) (by omega)
          clear ho hf hng hr hk
          generalize SM.ofLo (x + len1) y = zl at *
          generalize SM.ofHi (x + len1) y = zh at *
          generalize SM.ofLo x y = lo at *
          generalize SM.ofHi x y = hi at *
          go_wp2_with fail
          refine (F1 _).mono ?_
          rintro e w11 ⟨rfl, Bx⟩
          replace hs1 := hs1.kept Bx
          replace B := SW.below1 B Bx
          clear Bx
          have W := SW.Box.new w11 (lo) (hi) 26
          replace hs1 := hs1.alloc (.cells #[.int .i64 (lo), .int .i64 (hi)] 26)
          replace B := SW.below1 B (SW.below_new w11 (.cells #[.int .i64 (lo), .int .i64 (hi)] 26))
          have ⟨W0, W1, W2, W3⟩ := W
          go_wp2_with fail
          refine (F2 _ sa hs1).mono ?_
          rintro e w12 ⟨rfl, Bx⟩
          clear W0 W1 W2 W3
          replace W := W.kept Bx
          replace hs1 := hs1.kept Bx
          replace B := SW.below1 B Bx
          clear Bx
          replace W := W.alloc (.cells #[.int .i64 (lo), .int .i64 (hi)] 26)
          have X := SW.Box.new w12 (lo) (hi) 26
          replace hs1 := hs1.alloc (.cells #[.int .i64 (lo), .int .i64 (hi)] 26)
          replace B := SW.below1 B (SW.below_new w12 (.cells #[.int .i64 (lo), .int .i64 (hi)] 26))
          have ⟨W0, W1, W2, W3⟩ := W
          have ⟨X0, X1, X2, X3⟩ := X
          go_wp2_with fail
          refine (F3 _ sa hs1).mono ?_
          rintro e w13 ⟨rfl, Bx⟩
          clear W0 W1 W2 W3 X0 X1 X2 X3
          replace W := W.kept Bx
          replace X := X.kept Bx
          replace hs1 := hs1.kept Bx
          replace B := SW.below1 B Bx
          clear Bx
          replace W := W.alloc (.cells #[.int .i64 (zl), .int .i64 (zh)] 26)
          replace X := X.alloc (.cells #[.int .i64 (zl), .int .i64 (zh)] 26)
          have Z := SW.Box.new w13 (zl) (zh) 26
          replace hs1 := hs1.alloc (.cells #[.int .i64 (zl), .int .i64 (zh)] 26)
          replace B := SW.below1 B (SW.below_new w13 (.cells #[.int .i64 (zl), .int .i64 (zh)] 26))
          have ⟨W0, W1, W2, W3⟩ := W
          have ⟨X0, X1, X2, X3⟩ := X
          have ⟨Z0, Z1, Z2, Z3⟩ := Z
          go_wp2_with fail
          refine (F4 _ sa hs1).mono ?_
          rintro e w14 ⟨rfl, Bx⟩
          clear W0 W1 W2 W3 X0 X1 X2 X3 Z0 Z1 Z2 Z3
          replace W := W.kept Bx
          replace X := X.kept Bx
          replace Z := Z.kept Bx
          replace hs1 := hs1.kept Bx
          replace B := SW.below1 B Bx
          clear Bx
          replace W := W.alloc (.cells #[.int .i64 (-hi), .int .i64 (-lo)] 26)
          replace X := X.alloc (.cells #[.int .i64 (-hi), .int .i64 (-lo)] 26)
          replace Z := Z.alloc (.cells #[.int .i64 (-hi), .int .i64 (-lo)] 26)
          have V := SW.Box.new w14 (-hi) (-lo) 26
          replace hs1 := hs1.alloc (.cells #[.int .i64 (-hi), .int .i64 (-lo)] 26)
          replace B := SW.below1 B (SW.below_new w14 (.cells #[.int .i64 (-hi), .int .i64 (-lo)] 26))
          have ⟨W0, W1, W2, W3⟩ := W
          have ⟨X0, X1, X2, X3⟩ := X
          have ⟨Z0, Z1, Z2, Z3⟩ := Z
          have ⟨V0, V1, V2, V3⟩ := V
          go_wp2_with fail
          clear W0 W1 W2 W3 X0 X1 X2 X3 Z0 Z1 Z2 Z3 V0 V1 V2 V3
          generalize hww15 : (w14.alloc (.cells #[.int .i64 (-hi), .int .i64 (-lo)] 26)) = w15 at *
          clear hww15
          have Wk0 := cell_regrown W.c0
          have Wk1 := cell_regrown W.c1
          have Xk0 := cell_regrown X.c0
          have Xk1 := cell_regrown X.c1
          have Zk0 := cell_regrown Z.c0
          have Zk1 := cell_regrown Z.c1
          have Vk0 := cell_regrown V.c0
          have Vk1 := cell_regrown V.c1
          have c1 : ∀ d os, Calls Tryd.prog 7 #[SW.spV lo hi] (grow (redrawn w15 d) os) fun e w'' => e = .returned (SW.spV (-hi) (-lo)) ∧ ∃ p : Regrown, w'' = grow (redrawn w15 p.d) p.os := fun d os => Calls.regrown_of (F5 _ sa (hs1.kept (below_regrown w15 d os)))
          refine KS.region (by kernel_rfl) (by kernel_rfl) ?_
          repeat (refine KS.step (fun K hK => ?_); go_simp; refine hK _ ?_; clear hK K)
          refine KS.step (fun K hK => ?_)
          go_simp
          apply Exists.intro
          refine ⟨fun _ => ?_, hK _ ?_⟩
          exact c1 _ _
          clear hK K
          repeat (refine KS.step (fun K hK => ?_); go_simp; refine hK _ ?_; clear hK K)
          refine KS.nil ?_
          rintro _ ⟨p, rfl⟩
          have Bx := below_regrown w15 p.d p.os
          generalize grow (redrawn w15 p.d) p.os = w16 at *
          clear c1 Wk0 Wk1 Xk0 Xk1 Zk0 Zk1 Vk0 Vk1
          replace W := W.kept Bx
          replace X := X.kept Bx
          replace Z := Z.kept Bx
          replace V := V.kept Bx
          replace hs1 := hs1.kept Bx
          replace B := SW.below1 B Bx
          clear Bx
          have ⟨W0, W1, W2, W3⟩ := W
          have ⟨X0, X1, X2, X3⟩ := X
          have ⟨Z0, Z1, Z2, Z3⟩ := Z
          have ⟨V0, V1, V2, V3⟩ := V
          go_wp2
          go_ret
          exact ⟨rfl, B⟩
    · go_enter Tryd.func3, Tryd.ntmps3
      go_wp2
      go_ret
      exact ⟨rfl, Below.refl _ _⟩
  · go_enter Tryd.func3, Tryd.ntmps3
    go_wp2
    go_ret
    exact ⟨rfl, Below.refl _ _⟩

set_option maxRecDepth 100000 in
theorem lifted (os : Os) (started : os.Started) (H : Type) (enc : TypeId × Value → H) :
    ReturnsInHanded {} Tryd.checked os 3 .any (fun w args => (Rows.fnSpanOfMoreSpec.pre enc Tryd.prog Tryd.f3 [] false w args ∧ laidMetH Tryd.prog DR.laid1 w) ∧ sizedMet enc Tryd.prog Tryd.f3 (OpenSpec.ofChange Rows.fnSpanOfMoreSpec) false w args)
      (Rows.fnSpanOfMoreSpec.post enc Tryd.prog Tryd.f3 false true false false) := by
  refine returnsInHanded_of_change_and (C := Tryd.checked) (X := fun w _ => laidMetH Tryd.prog DR.laid1 w) (fun _ _ _ hh h => h.of_heap hh) own started (by kernel_rfl) Tryd.func3
    (ChangeSpec.witness_shaped (enc := enc) (C := Tryd.checked) (os := os) (X := fun w _ => laidMetH Tryd.prog DR.laid1 w) false (World.doorLaid Tryd.prog 400 os) #[.slice none 0 0, .slice none 0 0] 8 rfl (World.shaped_of_RefB (by kernel_rfl) (by kernel_rfl)) (by kernel_rfl) (by kernel_rfl) (by kernel_rfl) (DR.door_met os _)) ?_
  intro W base args ds gs before hval0 hW _ _ hL _
  have hval : ∀ (j : Nat) t v, Tryd.f3.params[j]? = some t → args[j]? = some v → Value.okWide Tryd.prog W .any base t v := hval0
  have hW' := hW
  obtain ⟨p, q, hA0, hV, rfl, hfz, hnd⟩ := hW
  have hA : DataW.TrodAll enc Tryd.prog W 0 (fun _ => true) true Tryd.f3.params.toList args.toList ds p := hA0
  rw [Tryd.params3] at hA hval
  obtain ⟨v0, vs0, d0, ds0, p0, q0, hargs0, rfl, rfl, h0, r0⟩ := trodAll_cons hA
  obtain ⟨v1, vs1, d1, ds1, p1, q1, hargs1, rfl, rfl, h1, r1⟩ := trodAll_cons r0
  obtain ⟨rfl, rfl, rfl⟩ := trodAll_nil r1
  obtain rfl : args = #[v0, v1] := by cases args; simp_all
  obtain ⟨sa, hv, hs⟩ := DR.of_laid hL
  obtain ⟨rfl, rfl⟩ := DataW.TrodVars.unique hV (DR.vars_read enc hv _)
  obtain ⟨a0, len0, cap0, rfl⟩ := okWide_slice Tryd.underlying22 (hval 0 22 v0 rfl rfl)
  have k0 := h0
  have lt0 : ∀ x ∈ p0, x.block < W.heap.size := by obtain ⟨m, hm⟩ := k0; exact DataW.trod_lt m _ _ _ hm
  obtain ⟨z0, w0⟩ : ∃ zs, IsRow .u8 W a0 len0 cap0 zs := by
    obtain ⟨fuel, hf⟩ := h0
    rcases open_ints Tryd.underlying22 Tryd.underlying5 (by kernel_rfl) hf with ⟨hcs, _⟩ | ⟨x, l, c, zs, hcs, _, hl, hm, hz, _, hcell, hwz⟩
    · simp [Value.cells] at hcs
      obtain ⟨rfl, rfl, rfl⟩ := hcs
      exact ⟨[], .inl ⟨rfl, rfl, rfl, rfl⟩⟩
    · simp [Value.cells] at hcs
      obtain ⟨rfl, rfl, rfl⟩ := hcs
      exact ⟨zs, .inr ⟨_, rfl, hl, hm, by simpa using hz, hcell, hwz⟩⟩
  obtain ⟨a1, len1, cap1, rfl⟩ := okWide_slice Tryd.underlying22 (hval 1 22 v1 rfl rfl)
  have k1 := h1
  have lt1 : ∀ x ∈ p1, x.block < W.heap.size := by obtain ⟨m, hm⟩ := k1; exact DataW.trod_lt m _ _ _ hm
  obtain ⟨z1, w1⟩ : ∃ zs, IsRow .u8 W a1 len1 cap1 zs := by
    obtain ⟨fuel, hf⟩ := h1
    rcases open_ints Tryd.underlying22 Tryd.underlying5 (by kernel_rfl) hf with ⟨hcs, _⟩ | ⟨x, l, c, zs, hcs, _, hl, hm, hz, _, hcell, hwz⟩
    · simp [Value.cells] at hcs
      obtain ⟨rfl, rfl, rfl⟩ := hcs
      exact ⟨[], .inl ⟨rfl, rfl, rfl, rfl⟩⟩
    · simp [Value.cells] at hcs
      obtain ⟨rfl, rfl, rfl⟩ := hcs
      exact ⟨zs, .inr ⟨_, rfl, hl, hm, by simpa using hz, hcell, hwz⟩⟩
  clear hA0 hval0
  refine (walk a0 len0 cap0 z0 a1 len1 cap1 z1 sa W w0 w1 hs).mono fun e W' ⟨he, bel⟩ => ?_
  subst he
  exact ⟨_, rfl, _, _, _, [], _, [.cell 0 0], hW', trodAll_mk1 (shut_bool Tryd.underlying4 _), (trodAll_cons_mk (Below.trod laidOut (by kernel_rfl) (of_decide_eq_true (by kernel_rfl)) k0 bel lt0) (trodAll_cons_mk (Below.trod laidOut (by kernel_rfl) (of_decide_eq_true (by kernel_rfl)) k1 bel lt1) trodAll_mk0)), DR.vars_read enc (DR.var_below hv bel) _, bel.frame _, fun h => by cases h⟩

theorem said : Rows.FnSpanOfMoreSaid :=
  OpenClaim.holds_of_wide 3 Tryd.f3 rfl rfl rfl rfl rfl rfl rfl ⟨rfl, rfl, rfl, rfl, rfl⟩ rfl rfl rfl rfl rfl (by kernel_rfl) Tryd.func3 (by kernel_rfl)
    (of_decide_eq_true (by kernel_rfl)) (by unfold Func.isWrapper; first | (rw [if_pos (by decide +kernel)]; kernel_rfl) | (rw [if_neg (by decide +kernel)]; exact ⟨rfl, rfl⟩))
    (fun os started H enc _ => lifted os started H enc)

theorem plain (f : FuncId) (fn : Func) (hf : Tryd.pinned.checked.prog.funcNamed "loop.example/alidade/laws.FnSpanOfMore" = some f) (hfn : Tryd.pinned.checked.prog.funcs[f]? = some fn) :
    true = Tryd.pinned.checked.prog.looks [] ∧ ∀ (j : Nat) t, fn.params[j]? = some t → Tryd.pinned.checked.prog.wantsStandIn t = false := by
  obtain rfl : f = 3 := Option.some.inj ((show Tryd.prog.funcNamed "loop.example/alidade/laws.FnSpanOfMore" = some 3 by kernel_rfl).symm.trans hf) |>.symm
  obtain rfl : fn = Tryd.f3 := (Option.some.inj (Tryd.func3.symm.trans hfn)).symm
  refine ⟨by kernel_rfl, fun j t ht => ?_⟩
  rw [Tryd.params3] at ht
  have hm : t ∈ [22, 22] := by
    have := Array.mem_of_getElem? ht
    simpa using this
  have hall : ([22, 22].all fun u => !Tryd.prog.wantsStandIn u) = true := by kernel_rfl
  exact (show Tryd.prog.wantsStandIn t = false by simpa using List.all_eq_true.1 hall t hm)

theorem card : Rows.FnSpanOfMoreCardSaid :=
  Claim7.holds_tied_plain_at .later [] _ _ _ _ said (fun _ h => by cases h) (by kernel_rfl) (fun _ h => by cases h) fnSpanOfMore_row_tie rfl ⟨rfl, rfl⟩ (by kernel_rfl) rfl plain (by kernel_rfl)
end Go.Proofs.YtpddpekenccclagDoor.fnSpanOfMore
namespace Go.Proofs.YtpddpekenccclagDoor
theorem fnSpanOfMore_holds : Rows.FnSpanOfMoreCardSaid := fnSpanOfMore.card
#print axioms fnSpanOfMore_holds
end Go.Proofs.YtpddpekenccclagDoor
