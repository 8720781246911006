/-
  For every code of bytes the law of SpanMeet returns true: of two drawn spans the program's SpanMeet is the specification's; a drawn number is in it just if it is in both, and it is within both. The package's variable errTooGreat is as the program's text lays it.
-/
import Derived.Test.YtldogjldnckdmacDoorCards
import Derived.Test.YtldogjldnckdmacDoorTie
import Derived.Test.YtldogjldnckdmacDoorDoorKit
import Derived.WalkKit
import Derived.ProofKit
import Derived.OpenShut
import Derived.ShutString
import Derived.ChangeOld
import Derived.Below
import Derived.LaidMore
import Derived.Stop.Joined
import Derived.SevenTiedAt
import Derived.Test.YtldogjldnckdmacDoorDrawKit
import Derived.Test.YtldogjldnckdmacDoorDrawWalks
import Derived.Test.YtldogjldnckdmacDoorDrawSpan
import Derived.Test.YtldogjldnckdmacDoorDrawSpan2
import Derived.Test.YtldogjldnckdmacDoorDrawSpan3
import Derived.Test.YtldogjldnckdmacDoorSpanWalks
import Derived.Test.YtldogjldnckdmacDoorSpanWalks2
import Derived.Test.YtldogjldnckdmacDoorDrawSpan4
import Derived.Test.YtldogjldnckdmacDoorDrawSpan5
import Derived.Test.YtldogjldnckdmacDoorKeptStep
namespace Go.Proofs.YtldogjldnckdmacDoor.fnSpanMeet
open Go.ChangeShapes Go.WideShapes Go.ChangeAt Go.RowKit Go.Sort
set_option linter.unusedVariables false

theorem own : ownKnob Tryd.prog.godebug = none := by kernel_rfl
theorem laidOut : laidOutB Tryd.prog = true := by kernel_rfl
/-- What the walk is told of a slice of bytes that came in. -/
def IsRow (k : IntKind) (w : World) (a : Option Addr) (len cap : Nat) (zs : List Int) : Prop :=
  (a = none ∧ len = 0 ∧ cap = 0 ∧ zs = []) ∨
  ∃ x, a = some x ∧ len ≤ cap ∧ cap ≤ maxLen ∧ zs.length = cap ∧ (∀ i, i < zs.length → w.cell? (x.add i) = some (.int k (zs.getD i 0))) ∧ ∀ n ∈ zs, (Lit.int k n).wf = true
theorem add_none (b off i : Nat) : (⟨b, off, none⟩ : Addr).add i = ⟨b, off + i, none⟩ := by
  unfold Addr.add
  split
  · rename_i h
    subst h
    rfl
  · rfl
theorem src {w : World} {a : Option Addr} {len cap : Nat} {zs : List Int} (h : IsRow .u8 w a len cap zs) : DK.Src w a len cap := by
  rcases h with ⟨rfl, rfl, rfl, rfl⟩ | ⟨x, rfl, hl, hm, hz, hcell, hwz⟩
  · exact ⟨by omega, by omega, .inl rfl⟩
  · unfold maxLen at hm
    refine ⟨hl, by omega, ?_⟩
    by_cases h0 : len = 0
    · exact .inl h0
    · obtain ⟨b, off, spot⟩ := x
      have hc := hcell 0 (by omega)
      have hspot : spot = none := by simpa [Addr.add] using World.cell?_spot hc
      subst hspot
      refine .inr ⟨b, off, rfl, fun i hi => ?_⟩
      have hi2 : i < zs.length := by omega
      have hb := bounds_u8 (hwz (zs.getD i 0) (by simp [List.getD, hi2]))
      have hci := hcell i hi2
      rw [add_none] at hci
      exact ⟨zs.getD i 0, hb.1, hb.2, hci⟩


set_option maxHeartbeats 8000000 in
theorem walk (a0 : Option Addr) (len0 cap0 : Nat) (z0 : List Int) (a1 : Option Addr) (len1 cap1 : Nat) (z1 : List Int) (sa : Addr) (w : World) (w0 : IsRow .u8 w a0 len0 cap0 z0) (w1' : IsRow .u8 w a1 len1 cap1 z1) (hs : SW.Sn sa w) :
    Calls Tryd.prog 4 #[.slice a0 len0 cap0, .slice a1 len1 cap1] w fun e w' => e = .returned (.bool true) ∧ Below w.heap.size w w' := by
  by_cases hl : (len0 : Int) ≤ 1048576
  · by_cases hm : (len1 : Int) ≤ 1048576
    · go_enter Tryd.func4, Tryd.ntmps4
      go_wp2_with fail
      refine (DW.drawSpanMeet_any _ _ _ _ (src w0)).mono ?_
      rintro e w1 ⟨sl, sh, tl, th, rfl, l0, l1, h0, h1, m0, m1, n0, n1, B⟩
      have hs1 := hs.kept B
      have S := (SW.Box.new w1 sl sh 24).alloc (.cells #[.int .i64 (tl), .int .i64 (th)] 24)
      have T := SW.Box.new2 w1 (.cells #[.int .i64 (sl), .int .i64 (sh)] 24) tl th 24
      replace B := SW.below1 B (SW.below_new2 w1 (.cells #[.int .i64 (sl), .int .i64 (sh)] 24) (.cells #[.int .i64 (tl), .int .i64 (th)] 24))
      replace hs1 := (hs1.alloc (.cells #[.int .i64 (sl), .int .i64 (sh)] 24)).alloc (.cells #[.int .i64 (tl), .int .i64 (th)] 24)
      have ⟨S0, S1, S2, S3⟩ := S
      have ⟨T0, T1, T2, T3⟩ := T
      go_wp2_with fail
      refine (DW.drawSpanOf_any _ _ _ _ ((src w1').kept B)).mono ?_
      rintro e w2 ⟨x, y, rfl, x0, x1, y0, y1, C2⟩
      clear S0 S1 S2 S3 T0 T1 T2 T3
      replace S := S.kept C2
      replace T := T.kept C2
      replace hs1 := hs1.kept C2
      replace B := SW.below1 B C2
      clear C2
      cases hs_ : SM.okS sl sh
      · have ho : SM.meetB sl sh tl th = false := SW.meet_no (SM.both_no1 hs_)
        have F1 : ∀ w, Calls Tryd.prog 16 #[SW.spV sl sh, SW.spV tl th] w fun e w' => e = .returned (.tuple #[SW.spV (0) (0), .bool false]) ∧ Below w.heap.size w w' := fun w => by have := SW.sSpanMeet_any sl sh tl th w; rw [ho] at this; exact this
        have F2 : ∀ w a, SW.Sn a w → Calls Tryd.prog 17 #[SW.spV sl sh, SW.spV tl th] w fun e w' => e = .returned (.tuple #[SW.spV (0) (0), .bool false]) ∧ Below w.heap.size w w' := fun w a hs => by have := SW.spanMeet_any sl sh tl th a w hs; rw [ho] at this; exact this
        have ⟨S0, S1, S2, S3⟩ := S
        have ⟨T0, T1, T2, T3⟩ := T
        go_wp2_with fail
        refine (F1 _).mono ?_
        rintro e w11 ⟨rfl, Bx⟩
        clear S0 S1 S2 S3 T0 T1 T2 T3
        replace S := S.kept Bx
        replace T := T.kept Bx
        replace hs1 := hs1.kept Bx
        replace B := SW.below1 B Bx
        clear Bx
        replace S := S.alloc (.cells #[.int .i64 (0), .int .i64 (0)] 24)
        replace T := T.alloc (.cells #[.int .i64 (0), .int .i64 (0)] 24)
        have W := SW.Box.new w11 (0) (0) 24
        replace hs1 := hs1.alloc (.cells #[.int .i64 (0), .int .i64 (0)] 24)
        replace B := SW.below1 B (SW.below_new w11 (.cells #[.int .i64 (0), .int .i64 (0)] 24))
        have ⟨S0, S1, S2, S3⟩ := S
        have ⟨T0, T1, T2, T3⟩ := T
        have ⟨W0, W1, W2, W3⟩ := W
        go_wp2_with fail
        refine (F2 _ sa hs1).mono ?_
        rintro e w12 ⟨rfl, Bx⟩
        clear S0 S1 S2 S3 T0 T1 T2 T3 W0 W1 W2 W3
        replace S := S.kept Bx
        replace T := T.kept Bx
        replace W := W.kept Bx
        replace hs1 := hs1.kept Bx
        replace B := SW.below1 B Bx
        clear Bx
        replace S := S.alloc (.cells #[.int .i64 (0), .int .i64 (0)] 24)
        replace T := T.alloc (.cells #[.int .i64 (0), .int .i64 (0)] 24)
        replace W := W.alloc (.cells #[.int .i64 (0), .int .i64 (0)] 24)
        have X := SW.Box.new w12 (0) (0) 24
        replace hs1 := hs1.alloc (.cells #[.int .i64 (0), .int .i64 (0)] 24)
        replace B := SW.below1 B (SW.below_new w12 (.cells #[.int .i64 (0), .int .i64 (0)] 24))
        have F5 : ∀ w, Calls Tryd.prog 12 #[SW.spV sl sh] w fun e w' => e = .returned (.bool false) ∧ Below w.heap.size w w' := fun w => by have := SW.sSpanOk_any sl sh w; rw [hs_] at this; exact this
        have ⟨S0, S1, S2, S3⟩ := S
        have ⟨T0, T1, T2, T3⟩ := T
        have ⟨W0, W1, W2, W3⟩ := W
        have ⟨X0, X1, X2, X3⟩ := X
        go_wp2_with fail
        refine (F5 _).mono ?_
        rintro e w13 ⟨rfl, Bx⟩
        clear S0 S1 S2 S3 T0 T1 T2 T3 W0 W1 W2 W3 X0 X1 X2 X3
        replace S := S.kept Bx
        replace T := T.kept Bx
        replace W := W.kept Bx
        replace X := X.kept Bx
        replace hs1 := hs1.kept Bx
        replace B := SW.below1 B Bx
        clear Bx
        have ⟨S0, S1, S2, S3⟩ := S
        have ⟨T0, T1, T2, T3⟩ := T
        have ⟨W0, W1, W2, W3⟩ := W
        have ⟨X0, X1, X2, X3⟩ := X
        go_wp2
        go_ret
        exact ⟨rfl, B⟩
      · cases ht_ : SM.okS tl th
        · have ho : SM.meetB sl sh tl th = false := SW.meet_no (SM.both_no2 ht_)
          have F1 : ∀ w, Calls Tryd.prog 16 #[SW.spV sl sh, SW.spV tl th] w fun e w' => e = .returned (.tuple #[SW.spV (0) (0), .bool false]) ∧ Below w.heap.size w w' := fun w => by have := SW.sSpanMeet_any sl sh tl th w; rw [ho] at this; exact this
          have F2 : ∀ w a, SW.Sn a w → Calls Tryd.prog 17 #[SW.spV sl sh, SW.spV tl th] w fun e w' => e = .returned (.tuple #[SW.spV (0) (0), .bool false]) ∧ Below w.heap.size w w' := fun w a hs => by have := SW.spanMeet_any sl sh tl th a w hs; rw [ho] at this; exact this
          have ⟨S0, S1, S2, S3⟩ := S
          have ⟨T0, T1, T2, T3⟩ := T
          go_wp2_with fail
          refine (F1 _).mono ?_
          rintro e w11 ⟨rfl, Bx⟩
          clear S0 S1 S2 S3 T0 T1 T2 T3
          replace S := S.kept Bx
          replace T := T.kept Bx
          replace hs1 := hs1.kept Bx
          replace B := SW.below1 B Bx
          clear Bx
          replace S := S.alloc (.cells #[.int .i64 (0), .int .i64 (0)] 24)
          replace T := T.alloc (.cells #[.int .i64 (0), .int .i64 (0)] 24)
          have W := SW.Box.new w11 (0) (0) 24
          replace hs1 := hs1.alloc (.cells #[.int .i64 (0), .int .i64 (0)] 24)
          replace B := SW.below1 B (SW.below_new w11 (.cells #[.int .i64 (0), .int .i64 (0)] 24))
          have ⟨S0, S1, S2, S3⟩ := S
          have ⟨T0, T1, T2, T3⟩ := T
          have ⟨W0, W1, W2, W3⟩ := W
          go_wp2_with fail
          refine (F2 _ sa hs1).mono ?_
          rintro e w12 ⟨rfl, Bx⟩
          clear S0 S1 S2 S3 T0 T1 T2 T3 W0 W1 W2 W3
          replace S := S.kept Bx
          replace T := T.kept Bx
          replace W := W.kept Bx
          replace hs1 := hs1.kept Bx
          replace B := SW.below1 B Bx
          clear Bx
          replace S := S.alloc (.cells #[.int .i64 (0), .int .i64 (0)] 24)
          replace T := T.alloc (.cells #[.int .i64 (0), .int .i64 (0)] 24)
          replace W := W.alloc (.cells #[.int .i64 (0), .int .i64 (0)] 24)
          have X := SW.Box.new w12 (0) (0) 24
          replace hs1 := hs1.alloc (.cells #[.int .i64 (0), .int .i64 (0)] 24)
          replace B := SW.below1 B (SW.below_new w12 (.cells #[.int .i64 (0), .int .i64 (0)] 24))
          have F5 : ∀ w, Calls Tryd.prog 12 #[SW.spV sl sh] w fun e w' => e = .returned (.bool true) ∧ Below w.heap.size w w' := fun w => by have := SW.sSpanOk_any sl sh w; rw [hs_] at this; exact this
          have ⟨S0, S1, S2, S3⟩ := S
          have ⟨T0, T1, T2, T3⟩ := T
          have ⟨W0, W1, W2, W3⟩ := W
          have ⟨X0, X1, X2, X3⟩ := X
          go_wp2_with fail
          refine (F5 _).mono ?_
          rintro e w13 ⟨rfl, Bx⟩
          clear S0 S1 S2 S3 T0 T1 T2 T3 W0 W1 W2 W3 X0 X1 X2 X3
          replace S := S.kept Bx
          replace T := T.kept Bx
          replace W := W.kept Bx
          replace X := X.kept Bx
          replace hs1 := hs1.kept Bx
          replace B := SW.below1 B Bx
          clear Bx
          have F6 : ∀ w, Calls Tryd.prog 12 #[SW.spV tl th] w fun e w' => e = .returned (.bool false) ∧ Below w.heap.size w w' := fun w => by have := SW.sSpanOk_any tl th w; rw [ht_] at this; exact this
          have ⟨S0, S1, S2, S3⟩ := S
          have ⟨T0, T1, T2, T3⟩ := T
          have ⟨W0, W1, W2, W3⟩ := W
          have ⟨X0, X1, X2, X3⟩ := X
          go_wp2_with fail
          refine (F6 _).mono ?_
          rintro e w14 ⟨rfl, Bx⟩
          clear S0 S1 S2 S3 T0 T1 T2 T3 W0 W1 W2 W3 X0 X1 X2 X3
          replace S := S.kept Bx
          replace T := T.kept Bx
          replace W := W.kept Bx
          replace X := X.kept Bx
          replace hs1 := hs1.kept Bx
          replace B := SW.below1 B Bx
          clear Bx
          have ⟨S0, S1, S2, S3⟩ := S
          have ⟨T0, T1, T2, T3⟩ := T
          have ⟨W0, W1, W2, W3⟩ := W
          have ⟨X0, X1, X2, X3⟩ := X
          go_wp2
          go_ret
          exact ⟨rfl, B⟩
        · cases ho : SM.meetB sl sh tl th
          · have hq := ho
            have F1 : ∀ w, Calls Tryd.prog 16 #[SW.spV sl sh, SW.spV tl th] w fun e w' => e = .returned (.tuple #[SW.spV (0) (0), .bool false]) ∧ Below w.heap.size w w' := fun w => by have := SW.sSpanMeet_any sl sh tl th w; rw [ho] at this; exact this
            have F2 : ∀ w a, SW.Sn a w → Calls Tryd.prog 17 #[SW.spV sl sh, SW.spV tl th] w fun e w' => e = .returned (.tuple #[SW.spV (0) (0), .bool false]) ∧ Below w.heap.size w w' := fun w a hs => by have := SW.spanMeet_any sl sh tl th a w hs; rw [ho] at this; exact this
            have ⟨S0, S1, S2, S3⟩ := S
            have ⟨T0, T1, T2, T3⟩ := T
            go_wp2_with fail
            refine (F1 _).mono ?_
            rintro e w11 ⟨rfl, Bx⟩
            clear S0 S1 S2 S3 T0 T1 T2 T3
            replace S := S.kept Bx
            replace T := T.kept Bx
            replace hs1 := hs1.kept Bx
            replace B := SW.below1 B Bx
            clear Bx
            replace S := S.alloc (.cells #[.int .i64 (0), .int .i64 (0)] 24)
            replace T := T.alloc (.cells #[.int .i64 (0), .int .i64 (0)] 24)
            have W := SW.Box.new w11 (0) (0) 24
            replace hs1 := hs1.alloc (.cells #[.int .i64 (0), .int .i64 (0)] 24)
            replace B := SW.below1 B (SW.below_new w11 (.cells #[.int .i64 (0), .int .i64 (0)] 24))
            have ⟨S0, S1, S2, S3⟩ := S
            have ⟨T0, T1, T2, T3⟩ := T
            have ⟨W0, W1, W2, W3⟩ := W
            go_wp2_with fail
            refine (F2 _ sa hs1).mono ?_
            rintro e w12 ⟨rfl, Bx⟩
            clear S0 S1 S2 S3 T0 T1 T2 T3 W0 W1 W2 W3
            replace S := S.kept Bx
            replace T := T.kept Bx
            replace W := W.kept Bx
            replace hs1 := hs1.kept Bx
            replace B := SW.below1 B Bx
            clear Bx
            replace S := S.alloc (.cells #[.int .i64 (0), .int .i64 (0)] 24)
            replace T := T.alloc (.cells #[.int .i64 (0), .int .i64 (0)] 24)
            replace W := W.alloc (.cells #[.int .i64 (0), .int .i64 (0)] 24)
            have X := SW.Box.new w12 (0) (0) 24
            replace hs1 := hs1.alloc (.cells #[.int .i64 (0), .int .i64 (0)] 24)
            replace B := SW.below1 B (SW.below_new w12 (.cells #[.int .i64 (0), .int .i64 (0)] 24))
            have F5 : ∀ w, Calls Tryd.prog 12 #[SW.spV sl sh] w fun e w' => e = .returned (.bool true) ∧ Below w.heap.size w w' := fun w => by have := SW.sSpanOk_any sl sh w; rw [hs_] at this; exact this
            have ⟨S0, S1, S2, S3⟩ := S
            have ⟨T0, T1, T2, T3⟩ := T
            have ⟨W0, W1, W2, W3⟩ := W
            have ⟨X0, X1, X2, X3⟩ := X
            go_wp2_with fail
            refine (F5 _).mono ?_
            rintro e w13 ⟨rfl, Bx⟩
            clear S0 S1 S2 S3 T0 T1 T2 T3 W0 W1 W2 W3 X0 X1 X2 X3
            replace S := S.kept Bx
            replace T := T.kept Bx
            replace W := W.kept Bx
            replace X := X.kept Bx
            replace hs1 := hs1.kept Bx
            replace B := SW.below1 B Bx
            clear Bx
            have F6 : ∀ w, Calls Tryd.prog 12 #[SW.spV tl th] w fun e w' => e = .returned (.bool true) ∧ Below w.heap.size w w' := fun w => by have := SW.sSpanOk_any tl th w; rw [ht_] at this; exact this
            have ⟨S0, S1, S2, S3⟩ := S
            have ⟨T0, T1, T2, T3⟩ := T
            have ⟨W0, W1, W2, W3⟩ := W
            have ⟨X0, X1, X2, X3⟩ := X
            go_wp2_with fail
            refine (F6 _).mono ?_
            rintro e w14 ⟨rfl, Bx⟩
            clear S0 S1 S2 S3 T0 T1 T2 T3 W0 W1 W2 W3 X0 X1 X2 X3
            replace S := S.kept Bx
            replace T := T.kept Bx
            replace W := W.kept Bx
            replace X := X.kept Bx
            replace hs1 := hs1.kept Bx
            replace B := SW.below1 B Bx
            clear Bx
            have E : (SM.hasB sl sh x y && SM.hasB tl th x y) = false := SM.meet_none (SM.both_mk hs_ ht_) ho
            clear F1 F2 F5 F6
            cases hx : SM.hasB sl sh x y
            · rw [hx, Bool.false_and] at E; clear E
              have F7 : ∀ w a, SW.Sn a w → Calls Tryd.prog 18 #[SW.spV (sl) (sh), .int .i64 x, .int .i64 y] w fun e w' => e = .returned (.bool false) ∧ Below w.heap.size w w' := fun w a hs => by have := SW.spanHas_any (sl) (sh) x y a w hs; rw [hx] at this; exact this
              have ⟨S0, S1, S2, S3⟩ := S
              have ⟨T0, T1, T2, T3⟩ := T
              have ⟨W0, W1, W2, W3⟩ := W
              have ⟨X0, X1, X2, X3⟩ := X
              go_wp2_with fail
              refine (F7 _ sa hs1).mono ?_
              rintro e w15 ⟨rfl, Bx⟩
              clear S0 S1 S2 S3 T0 T1 T2 T3 W0 W1 W2 W3 X0 X1 X2 X3
              replace S := S.kept Bx
              replace T := T.kept Bx
              replace W := W.kept Bx
              replace X := X.kept Bx
              replace hs1 := hs1.kept Bx
              replace B := SW.below1 B Bx
              clear Bx
              have ⟨S0, S1, S2, S3⟩ := S
              have ⟨T0, T1, T2, T3⟩ := T
              have ⟨W0, W1, W2, W3⟩ := W
              have ⟨X0, X1, X2, X3⟩ := X
              go_wp2
              go_ret
              exact ⟨rfl, B⟩
            · cases hy : SM.hasB tl th x y
              · rw [hx, hy, Bool.true_and] at E; clear E
                have F7 : ∀ w a, SW.Sn a w → Calls Tryd.prog 18 #[SW.spV (sl) (sh), .int .i64 x, .int .i64 y] w fun e w' => e = .returned (.bool true) ∧ Below w.heap.size w w' := fun w a hs => by have := SW.spanHas_any (sl) (sh) x y a w hs; rw [hx] at this; exact this
                have F8 : ∀ w a, SW.Sn a w → Calls Tryd.prog 18 #[SW.spV (tl) (th), .int .i64 x, .int .i64 y] w fun e w' => e = .returned (.bool false) ∧ Below w.heap.size w w' := fun w a hs => by have := SW.spanHas_any (tl) (th) x y a w hs; rw [hy] at this; exact this
                have ⟨S0, S1, S2, S3⟩ := S
                have ⟨T0, T1, T2, T3⟩ := T
                have ⟨W0, W1, W2, W3⟩ := W
                have ⟨X0, X1, X2, X3⟩ := X
                go_wp2_with fail
                refine (F7 _ sa hs1).mono ?_
                rintro e w15 ⟨rfl, Bx⟩
                clear S0 S1 S2 S3 T0 T1 T2 T3 W0 W1 W2 W3 X0 X1 X2 X3
                replace S := S.kept Bx
                replace T := T.kept Bx
                replace W := W.kept Bx
                replace X := X.kept Bx
                replace hs1 := hs1.kept Bx
                replace B := SW.below1 B Bx
                clear Bx
                have ⟨S0, S1, S2, S3⟩ := S
                have ⟨T0, T1, T2, T3⟩ := T
                have ⟨W0, W1, W2, W3⟩ := W
                have ⟨X0, X1, X2, X3⟩ := X
                go_wp2_with fail
                refine (F8 _ sa hs1).mono ?_
                rintro e w16 ⟨rfl, Bx⟩
                clear S0 S1 S2 S3 T0 T1 T2 T3 W0 W1 W2 W3 X0 X1 X2 X3
                replace S := S.kept Bx
                replace T := T.kept Bx
                replace W := W.kept Bx
                replace X := X.kept Bx
                replace hs1 := hs1.kept Bx
                replace B := SW.below1 B Bx
                clear Bx
                have ⟨S0, S1, S2, S3⟩ := S
                have ⟨T0, T1, T2, T3⟩ := T
                have ⟨W0, W1, W2, W3⟩ := W
                have ⟨X0, X1, X2, X3⟩ := X
                go_wp2
                go_ret
                exact ⟨rfl, B⟩
              · rw [hx, hy, Bool.true_and] at E
                cases E
          · have hq := ho
            have F1 : ∀ w, Calls Tryd.prog 16 #[SW.spV sl sh, SW.spV tl th] w fun e w' => e = .returned (.tuple #[SW.spV (max sl tl) (min sh th), .bool true]) ∧ Below w.heap.size w w' := fun w => by have := SW.sSpanMeet_any sl sh tl th w; rw [ho] at this; exact this
            have F2 : ∀ w a, SW.Sn a w → Calls Tryd.prog 17 #[SW.spV sl sh, SW.spV tl th] w fun e w' => e = .returned (.tuple #[SW.spV (max sl tl) (min sh th), .bool true]) ∧ Below w.heap.size w w' := fun w a hs => by have := SW.spanMeet_any sl sh tl th a w hs; rw [ho] at this; exact this
            have ⟨S0, S1, S2, S3⟩ := S
            have ⟨T0, T1, T2, T3⟩ := T
            go_wp2_with fail
            refine (F1 _).mono ?_
            rintro e w11 ⟨rfl, Bx⟩
            clear S0 S1 S2 S3 T0 T1 T2 T3
            replace S := S.kept Bx
            replace T := T.kept Bx
            replace hs1 := hs1.kept Bx
            replace B := SW.below1 B Bx
            clear Bx
            replace S := S.alloc (.cells #[.int .i64 (max sl tl), .int .i64 (min sh th)] 24)
            replace T := T.alloc (.cells #[.int .i64 (max sl tl), .int .i64 (min sh th)] 24)
            have W := SW.Box.new w11 (max sl tl) (min sh th) 24
            replace hs1 := hs1.alloc (.cells #[.int .i64 (max sl tl), .int .i64 (min sh th)] 24)
            replace B := SW.below1 B (SW.below_new w11 (.cells #[.int .i64 (max sl tl), .int .i64 (min sh th)] 24))
            have ⟨S0, S1, S2, S3⟩ := S
            have ⟨T0, T1, T2, T3⟩ := T
            have ⟨W0, W1, W2, W3⟩ := W
            go_wp2_with fail
            refine (F2 _ sa hs1).mono ?_
            rintro e w12 ⟨rfl, Bx⟩
            clear S0 S1 S2 S3 T0 T1 T2 T3 W0 W1 W2 W3
            replace S := S.kept Bx
            replace T := T.kept Bx
            replace W := W.kept Bx
            replace hs1 := hs1.kept Bx
            replace B := SW.below1 B Bx
            clear Bx
            replace S := S.alloc (.cells #[.int .i64 (max sl tl), .int .i64 (min sh th)] 24)
            replace T := T.alloc (.cells #[.int .i64 (max sl tl), .int .i64 (min sh th)] 24)
            replace W := W.alloc (.cells #[.int .i64 (max sl tl), .int .i64 (min sh th)] 24)
            have X := SW.Box.new w12 (max sl tl) (min sh th) 24
            replace hs1 := hs1.alloc (.cells #[.int .i64 (max sl tl), .int .i64 (min sh th)] 24)
            replace B := SW.below1 B (SW.below_new w12 (.cells #[.int .i64 (max sl tl), .int .i64 (min sh th)] 24))
            have F5 : ∀ w, Calls Tryd.prog 12 #[SW.spV sl sh] w fun e w' => e = .returned (.bool true) ∧ Below w.heap.size w w' := fun w => by have := SW.sSpanOk_any sl sh w; rw [hs_] at this; exact this
            have ⟨S0, S1, S2, S3⟩ := S
            have ⟨T0, T1, T2, T3⟩ := T
            have ⟨W0, W1, W2, W3⟩ := W
            have ⟨X0, X1, X2, X3⟩ := X
            go_wp2_with fail
            refine (F5 _).mono ?_
            rintro e w13 ⟨rfl, Bx⟩
            clear S0 S1 S2 S3 T0 T1 T2 T3 W0 W1 W2 W3 X0 X1 X2 X3
            replace S := S.kept Bx
            replace T := T.kept Bx
            replace W := W.kept Bx
            replace X := X.kept Bx
            replace hs1 := hs1.kept Bx
            replace B := SW.below1 B Bx
            clear Bx
            have F6 : ∀ w, Calls Tryd.prog 12 #[SW.spV tl th] w fun e w' => e = .returned (.bool true) ∧ Below w.heap.size w w' := fun w => by have := SW.sSpanOk_any tl th w; rw [ht_] at this; exact this
            have ⟨S0, S1, S2, S3⟩ := S
            have ⟨T0, T1, T2, T3⟩ := T
            have ⟨W0, W1, W2, W3⟩ := W
            have ⟨X0, X1, X2, X3⟩ := X
            go_wp2_with fail
            refine (F6 _).mono ?_
            rintro e w14 ⟨rfl, Bx⟩
            clear S0 S1 S2 S3 T0 T1 T2 T3 W0 W1 W2 W3 X0 X1 X2 X3
            replace S := S.kept Bx
            replace T := T.kept Bx
            replace W := W.kept Bx
            replace X := X.kept Bx
            replace hs1 := hs1.kept Bx
            replace B := SW.below1 B Bx
            clear Bx
            have E : (SM.hasB sl sh x y && SM.hasB tl th x y) = SM.hasB (max sl tl) (min sh th) x y := SM.meet_has ho
            have i1 := SM.meet_1 ho
            have i2 := SM.meet_2 ho
            clear F1 F2 ho hq F5 F6
            generalize hml : max sl tl = ml at *
            generalize hmh : min sh th = mh at *
            clear hml hmh
            cases hx : SM.hasB sl sh x y
            · rw [hx, Bool.false_and] at E
              replace E := E.symm
              have F7 : ∀ w a, SW.Sn a w → Calls Tryd.prog 18 #[SW.spV (sl) (sh), .int .i64 x, .int .i64 y] w fun e w' => e = .returned (.bool false) ∧ Below w.heap.size w w' := fun w a hs => by have := SW.spanHas_any (sl) (sh) x y a w hs; rw [hx] at this; exact this
              have ⟨S0, S1, S2, S3⟩ := S
              have ⟨T0, T1, T2, T3⟩ := T
              have ⟨W0, W1, W2, W3⟩ := W
              have ⟨X0, X1, X2, X3⟩ := X
              go_wp2_with fail
              refine (F7 _ sa hs1).mono ?_
              rintro e w15 ⟨rfl, Bx⟩
              clear S0 S1 S2 S3 T0 T1 T2 T3 W0 W1 W2 W3 X0 X1 X2 X3
              replace S := S.kept Bx
              replace T := T.kept Bx
              replace W := W.kept Bx
              replace X := X.kept Bx
              replace hs1 := hs1.kept Bx
              replace B := SW.below1 B Bx
              clear Bx
              have F9 : ∀ w a, SW.Sn a w → Calls Tryd.prog 18 #[SW.spV (ml) (mh), .int .i64 x, .int .i64 y] w fun e w' => e = .returned (.bool false) ∧ Below w.heap.size w w' := fun w a hs => by have := SW.spanHas_any (ml) (mh) x y a w hs; rw [E] at this; exact this
              have Fa : ∀ w a, SW.Sn a w → Calls Tryd.prog 13 #[SW.spV ml mh, SW.spV sl sh] w fun e w' => e = .returned (.bool true) ∧ Below w.heap.size w w' := fun w a hs => by have := SW.spanWithin_any ml mh sl sh a w hs; rw [i1] at this; exact this
              have Fb : ∀ w a, SW.Sn a w → Calls Tryd.prog 13 #[SW.spV ml mh, SW.spV tl th] w fun e w' => e = .returned (.bool true) ∧ Below w.heap.size w w' := fun w a hs => by have := SW.spanWithin_any ml mh tl th a w hs; rw [i2] at this; exact this
              have ⟨S0, S1, S2, S3⟩ := S
              have ⟨T0, T1, T2, T3⟩ := T
              have ⟨W0, W1, W2, W3⟩ := W
              have ⟨X0, X1, X2, X3⟩ := X
              go_wp2_with fail
              refine (F9 _ sa hs1).mono ?_
              rintro e w16 ⟨rfl, Bx⟩
              clear S0 S1 S2 S3 T0 T1 T2 T3 W0 W1 W2 W3 X0 X1 X2 X3
              replace S := S.kept Bx
              replace T := T.kept Bx
              replace W := W.kept Bx
              replace X := X.kept Bx
              replace hs1 := hs1.kept Bx
              replace B := SW.below1 B Bx
              clear Bx
              have ⟨S0, S1, S2, S3⟩ := S
              have ⟨T0, T1, T2, T3⟩ := T
              have ⟨W0, W1, W2, W3⟩ := W
              have ⟨X0, X1, X2, X3⟩ := X
              go_wp2_with fail
              refine (Fa _ sa hs1).mono ?_
              rintro e w17 ⟨rfl, Bx⟩
              clear S0 S1 S2 S3 T0 T1 T2 T3 W0 W1 W2 W3 X0 X1 X2 X3
              replace S := S.kept Bx
              replace T := T.kept Bx
              replace W := W.kept Bx
              replace X := X.kept Bx
              replace hs1 := hs1.kept Bx
              replace B := SW.below1 B Bx
              clear Bx
              have ⟨S0, S1, S2, S3⟩ := S
              have ⟨T0, T1, T2, T3⟩ := T
              have ⟨W0, W1, W2, W3⟩ := W
              have ⟨X0, X1, X2, X3⟩ := X
              go_wp2_with fail
              refine (Fb _ sa hs1).mono ?_
              rintro e w18 ⟨rfl, Bx⟩
              clear S0 S1 S2 S3 T0 T1 T2 T3 W0 W1 W2 W3 X0 X1 X2 X3
              replace S := S.kept Bx
              replace T := T.kept Bx
              replace W := W.kept Bx
              replace X := X.kept Bx
              replace hs1 := hs1.kept Bx
              replace B := SW.below1 B Bx
              clear Bx
              have ⟨S0, S1, S2, S3⟩ := S
              have ⟨T0, T1, T2, T3⟩ := T
              have ⟨W0, W1, W2, W3⟩ := W
              have ⟨X0, X1, X2, X3⟩ := X
              go_wp2
              go_ret
              exact ⟨rfl, B⟩
            · cases hy : SM.hasB tl th x y
              · rw [hx, hy, Bool.true_and] at E
                replace E := E.symm
                have F7 : ∀ w a, SW.Sn a w → Calls Tryd.prog 18 #[SW.spV (sl) (sh), .int .i64 x, .int .i64 y] w fun e w' => e = .returned (.bool true) ∧ Below w.heap.size w w' := fun w a hs => by have := SW.spanHas_any (sl) (sh) x y a w hs; rw [hx] at this; exact this
                have F8 : ∀ w a, SW.Sn a w → Calls Tryd.prog 18 #[SW.spV (tl) (th), .int .i64 x, .int .i64 y] w fun e w' => e = .returned (.bool false) ∧ Below w.heap.size w w' := fun w a hs => by have := SW.spanHas_any (tl) (th) x y a w hs; rw [hy] at this; exact this
                have ⟨S0, S1, S2, S3⟩ := S
                have ⟨T0, T1, T2, T3⟩ := T
                have ⟨W0, W1, W2, W3⟩ := W
                have ⟨X0, X1, X2, X3⟩ := X
                go_wp2_with fail
                refine (F7 _ sa hs1).mono ?_
                rintro e w15 ⟨rfl, Bx⟩
                clear S0 S1 S2 S3 T0 T1 T2 T3 W0 W1 W2 W3 X0 X1 X2 X3
                replace S := S.kept Bx
                replace T := T.kept Bx
                replace W := W.kept Bx
                replace X := X.kept Bx
                replace hs1 := hs1.kept Bx
                replace B := SW.below1 B Bx
                clear Bx
                have ⟨S0, S1, S2, S3⟩ := S
                have ⟨T0, T1, T2, T3⟩ := T
                have ⟨W0, W1, W2, W3⟩ := W
                have ⟨X0, X1, X2, X3⟩ := X
                go_wp2_with fail
                refine (F8 _ sa hs1).mono ?_
                rintro e w16 ⟨rfl, Bx⟩
                clear S0 S1 S2 S3 T0 T1 T2 T3 W0 W1 W2 W3 X0 X1 X2 X3
                replace S := S.kept Bx
                replace T := T.kept Bx
                replace W := W.kept Bx
                replace X := X.kept Bx
                replace hs1 := hs1.kept Bx
                replace B := SW.below1 B Bx
                clear Bx
                have F9 : ∀ w a, SW.Sn a w → Calls Tryd.prog 18 #[SW.spV (ml) (mh), .int .i64 x, .int .i64 y] w fun e w' => e = .returned (.bool false) ∧ Below w.heap.size w w' := fun w a hs => by have := SW.spanHas_any (ml) (mh) x y a w hs; rw [E] at this; exact this
                have Fa : ∀ w a, SW.Sn a w → Calls Tryd.prog 13 #[SW.spV ml mh, SW.spV sl sh] w fun e w' => e = .returned (.bool true) ∧ Below w.heap.size w w' := fun w a hs => by have := SW.spanWithin_any ml mh sl sh a w hs; rw [i1] at this; exact this
                have Fb : ∀ w a, SW.Sn a w → Calls Tryd.prog 13 #[SW.spV ml mh, SW.spV tl th] w fun e w' => e = .returned (.bool true) ∧ Below w.heap.size w w' := fun w a hs => by have := SW.spanWithin_any ml mh tl th a w hs; rw [i2] at this; exact this
                have ⟨S0, S1, S2, S3⟩ := S
                have ⟨T0, T1, T2, T3⟩ := T
                have ⟨W0, W1, W2, W3⟩ := W
                have ⟨X0, X1, X2, X3⟩ := X
                go_wp2_with fail
                refine (F9 _ sa hs1).mono ?_
                rintro e w17 ⟨rfl, Bx⟩
                clear S0 S1 S2 S3 T0 T1 T2 T3 W0 W1 W2 W3 X0 X1 X2 X3
                replace S := S.kept Bx
                replace T := T.kept Bx
                replace W := W.kept Bx
                replace X := X.kept Bx
                replace hs1 := hs1.kept Bx
                replace B := SW.below1 B Bx
                clear Bx
                have ⟨S0, S1, S2, S3⟩ := S
                have ⟨T0, T1, T2, T3⟩ := T
                have ⟨W0, W1, W2, W3⟩ := W
                have ⟨X0, X1, X2, X3⟩ := X
                go_wp2_with fail
                refine (Fa _ sa hs1).mono ?_
                rintro e w18 ⟨rfl, Bx⟩
                clear S0 S1 S2 S3 T0 T1 T2 T3 W0 W1 W2 W3 X0 X1 X2 X3
                replace S := S.kept Bx
                replace T := T.kept Bx
                replace W := W.kept Bx
                replace X := X.kept Bx
                replace hs1 := hs1.kept Bx
                replace B := SW.below1 B Bx
                clear Bx
                have ⟨S0, S1, S2, S3⟩ := S
                have ⟨T0, T1, T2, T3⟩ := T
                have ⟨W0, W1, W2, W3⟩ := W
                have ⟨X0, X1, X2, X3⟩ := X
                go_wp2_with fail
                refine (Fb _ sa hs1).mono ?_
                rintro e w19 ⟨rfl, Bx⟩
                clear S0 S1 S2 S3 T0 T1 T2 T3 W0 W1 W2 W3 X0 X1 X2 X3
                replace S := S.kept Bx
                replace T := T.kept Bx
                replace W := W.kept Bx
                replace X := X.kept Bx
                replace hs1 := hs1.kept Bx
                replace B := SW.below1 B Bx
                clear Bx
                have ⟨S0, S1, S2, S3⟩ := S
                have ⟨T0, T1, T2, T3⟩ := T
                have ⟨W0, W1, W2, W3⟩ := W
                have ⟨X0, X1, X2, X3⟩ := X
                go_wp2
                go_ret
                exact ⟨rfl, B⟩
              · rw [hx, hy, Bool.true_and] at E
                replace E := E.symm
                have F7 : ∀ w a, SW.Sn a w → Calls Tryd.prog 18 #[SW.spV (sl) (sh), .int .i64 x, .int .i64 y] w fun e w' => e = .returned (.bool true) ∧ Below w.heap.size w w' := fun w a hs => by have := SW.spanHas_any (sl) (sh) x y a w hs; rw [hx] at this; exact this
                have F8 : ∀ w a, SW.Sn a w → Calls Tryd.prog 18 #[SW.spV (tl) (th), .int .i64 x, .int .i64 y] w fun e w' => e = .returned (.bool true) ∧ Below w.heap.size w w' := fun w a hs => by have := SW.spanHas_any (tl) (th) x y a w hs; rw [hy] at this; exact this
                have ⟨S0, S1, S2, S3⟩ := S
                have ⟨T0, T1, T2, T3⟩ := T
                have ⟨W0, W1, W2, W3⟩ := W
                have ⟨X0, X1, X2, X3⟩ := X
                go_wp2_with fail
                refine (F7 _ sa hs1).mono ?_
                rintro e w15 ⟨rfl, Bx⟩
                clear S0 S1 S2 S3 T0 T1 T2 T3 W0 W1 W2 W3 X0 X1 X2 X3
                replace S := S.kept Bx
                replace T := T.kept Bx
                replace W := W.kept Bx
                replace X := X.kept Bx
                replace hs1 := hs1.kept Bx
                replace B := SW.below1 B Bx
                clear Bx
                have ⟨S0, S1, S2, S3⟩ := S
                have ⟨T0, T1, T2, T3⟩ := T
                have ⟨W0, W1, W2, W3⟩ := W
                have ⟨X0, X1, X2, X3⟩ := X
                go_wp2_with fail
                refine (F8 _ sa hs1).mono ?_
                rintro e w16 ⟨rfl, Bx⟩
                clear S0 S1 S2 S3 T0 T1 T2 T3 W0 W1 W2 W3 X0 X1 X2 X3
                replace S := S.kept Bx
                replace T := T.kept Bx
                replace W := W.kept Bx
                replace X := X.kept Bx
                replace hs1 := hs1.kept Bx
                replace B := SW.below1 B Bx
                clear Bx
                have F9 : ∀ w a, SW.Sn a w → Calls Tryd.prog 18 #[SW.spV (ml) (mh), .int .i64 x, .int .i64 y] w fun e w' => e = .returned (.bool true) ∧ Below w.heap.size w w' := fun w a hs => by have := SW.spanHas_any (ml) (mh) x y a w hs; rw [E] at this; exact this
                have Fa : ∀ w a, SW.Sn a w → Calls Tryd.prog 13 #[SW.spV ml mh, SW.spV sl sh] w fun e w' => e = .returned (.bool true) ∧ Below w.heap.size w w' := fun w a hs => by have := SW.spanWithin_any ml mh sl sh a w hs; rw [i1] at this; exact this
                have Fb : ∀ w a, SW.Sn a w → Calls Tryd.prog 13 #[SW.spV ml mh, SW.spV tl th] w fun e w' => e = .returned (.bool true) ∧ Below w.heap.size w w' := fun w a hs => by have := SW.spanWithin_any ml mh tl th a w hs; rw [i2] at this; exact this
                have ⟨S0, S1, S2, S3⟩ := S
                have ⟨T0, T1, T2, T3⟩ := T
                have ⟨W0, W1, W2, W3⟩ := W
                have ⟨X0, X1, X2, X3⟩ := X
                go_wp2_with fail
                refine (F9 _ sa hs1).mono ?_
                rintro e w17 ⟨rfl, Bx⟩
                clear S0 S1 S2 S3 T0 T1 T2 T3 W0 W1 W2 W3 X0 X1 X2 X3
                replace S := S.kept Bx
                replace T := T.kept Bx
                replace W := W.kept Bx
                replace X := X.kept Bx
                replace hs1 := hs1.kept Bx
                replace B := SW.below1 B Bx
                clear Bx
                have ⟨S0, S1, S2, S3⟩ := S
                have ⟨T0, T1, T2, T3⟩ := T
                have ⟨W0, W1, W2, W3⟩ := W
                have ⟨X0, X1, X2, X3⟩ := X
                go_wp2_with fail
                refine (Fa _ sa hs1).mono ?_
                rintro e w18 ⟨rfl, Bx⟩
                clear S0 S1 S2 S3 T0 T1 T2 T3 W0 W1 W2 W3 X0 X1 X2 X3
                replace S := S.kept Bx
                replace T := T.kept Bx
                replace W := W.kept Bx
                replace X := X.kept Bx
                replace hs1 := hs1.kept Bx
                replace B := SW.below1 B Bx
                clear Bx
                have ⟨S0, S1, S2, S3⟩ := S
                have ⟨T0, T1, T2, T3⟩ := T
                have ⟨W0, W1, W2, W3⟩ := W
                have ⟨X0, X1, X2, X3⟩ := X
                go_wp2_with fail
                refine (Fb _ sa hs1).mono ?_
                rintro e w19 ⟨rfl, Bx⟩
                clear S0 S1 S2 S3 T0 T1 T2 T3 W0 W1 W2 W3 X0 X1 X2 X3
                replace S := S.kept Bx
                replace T := T.kept Bx
                replace W := W.kept Bx
                replace X := X.kept Bx
                replace hs1 := hs1.kept Bx
                replace B := SW.below1 B Bx
                clear Bx
                have ⟨S0, S1, S2, S3⟩ := S
                have ⟨T0, T1, T2, T3⟩ := T
                have ⟨W0, W1, W2, W3⟩ := W
                have ⟨X0, X1, X2, X3⟩ := X
                go_wp2
                go_ret
                exact ⟨rfl, B⟩
    · go_enter Tryd.func4, Tryd.ntmps4
      go_wp2
      go_ret
      exact ⟨rfl, Below.refl _ _⟩
  · go_enter Tryd.func4, Tryd.ntmps4
    go_wp2
    go_ret
    exact ⟨rfl, Below.refl _ _⟩

set_option maxRecDepth 100000 in
theorem lifted (os : Os) (started : os.Started) (H : Type) (enc : TypeId × Value → H) :
    ReturnsInHanded {} Tryd.checked os 4 .any (fun w args => (Rows.fnSpanMeetSpec.pre enc Tryd.prog Tryd.f4 [] false w args ∧ laidMetH Tryd.prog DR.laid1 w) ∧ sizedMet enc Tryd.prog Tryd.f4 (OpenSpec.ofChange Rows.fnSpanMeetSpec) false w args)
      (Rows.fnSpanMeetSpec.post enc Tryd.prog Tryd.f4 false true false false) := by
  refine returnsInHanded_of_change_and (C := Tryd.checked) (X := fun w _ => laidMetH Tryd.prog DR.laid1 w) (fun _ _ _ hh h => h.of_heap hh) own started (by kernel_rfl) Tryd.func4
    (ChangeSpec.witness_shaped (enc := enc) (C := Tryd.checked) (os := os) (X := fun w _ => laidMetH Tryd.prog DR.laid1 w) false (World.doorLaid Tryd.prog 400 os) #[.slice none 0 0, .slice none 0 0] 8 rfl (World.shaped_of_RefB (by kernel_rfl) (by kernel_rfl)) (by kernel_rfl) (by kernel_rfl) (by kernel_rfl) (DR.door_met os _)) ?_
  intro W base args ds gs before hval0 hW _ _ hL _
  have hval : ∀ (j : Nat) t v, Tryd.f4.params[j]? = some t → args[j]? = some v → Value.okWide Tryd.prog W .any base t v := hval0
  have hW' := hW
  obtain ⟨p, q, hA0, hV, rfl, hfz, hnd⟩ := hW
  have hA : DataW.TrodAll enc Tryd.prog W 0 (fun _ => true) true Tryd.f4.params.toList args.toList ds p := hA0
  rw [Tryd.params4] at hA hval
  obtain ⟨v0, vs0, d0, ds0, p0, q0, hargs0, rfl, rfl, h0, r0⟩ := trodAll_cons hA
  obtain ⟨v1, vs1, d1, ds1, p1, q1, hargs1, rfl, rfl, h1, r1⟩ := trodAll_cons r0
  obtain ⟨rfl, rfl, rfl⟩ := trodAll_nil r1
  obtain rfl : args = #[v0, v1] := by cases args; simp_all
  obtain ⟨sa, hv, hs⟩ := DR.of_laid hL
  obtain ⟨rfl, rfl⟩ := DataW.TrodVars.unique hV (DR.vars_read enc hv _)
  obtain ⟨a0, len0, cap0, rfl⟩ := okWide_slice Tryd.underlying22 (hval 0 22 v0 rfl rfl)
  have k0 := h0
  have lt0 : ∀ x ∈ p0, x.block < W.heap.size := by obtain ⟨m, hm⟩ := k0; exact DataW.trod_lt m _ _ _ hm
  obtain ⟨z0, w0⟩ : ∃ zs, IsRow .u8 W a0 len0 cap0 zs := by
    obtain ⟨fuel, hf⟩ := h0
    rcases open_ints Tryd.underlying22 Tryd.underlying5 (by kernel_rfl) hf with ⟨hcs, _⟩ | ⟨x, l, c, zs, hcs, _, hl, hm, hz, _, hcell, hwz⟩
    · simp [Value.cells] at hcs
      obtain ⟨rfl, rfl, rfl⟩ := hcs
      exact ⟨[], .inl ⟨rfl, rfl, rfl, rfl⟩⟩
    · simp [Value.cells] at hcs
      obtain ⟨rfl, rfl, rfl⟩ := hcs
      exact ⟨zs, .inr ⟨_, rfl, hl, hm, by simpa using hz, hcell, hwz⟩⟩
  obtain ⟨a1, len1, cap1, rfl⟩ := okWide_slice Tryd.underlying22 (hval 1 22 v1 rfl rfl)
  have k1 := h1
  have lt1 : ∀ x ∈ p1, x.block < W.heap.size := by obtain ⟨m, hm⟩ := k1; exact DataW.trod_lt m _ _ _ hm
  obtain ⟨z1, w1⟩ : ∃ zs, IsRow .u8 W a1 len1 cap1 zs := by
    obtain ⟨fuel, hf⟩ := h1
    rcases open_ints Tryd.underlying22 Tryd.underlying5 (by kernel_rfl) hf with ⟨hcs, _⟩ | ⟨x, l, c, zs, hcs, _, hl, hm, hz, _, hcell, hwz⟩
    · simp [Value.cells] at hcs
      obtain ⟨rfl, rfl, rfl⟩ := hcs
      exact ⟨[], .inl ⟨rfl, rfl, rfl, rfl⟩⟩
    · simp [Value.cells] at hcs
      obtain ⟨rfl, rfl, rfl⟩ := hcs
      exact ⟨zs, .inr ⟨_, rfl, hl, hm, by simpa using hz, hcell, hwz⟩⟩
  clear hA0 hval0
  refine (walk a0 len0 cap0 z0 a1 len1 cap1 z1 sa W w0 w1 hs).mono fun e W' ⟨he, bel⟩ => ?_
  subst he
  exact ⟨_, rfl, _, _, _, [], _, [.cell 0 0], hW', trodAll_mk1 (shut_bool Tryd.underlying4 _), (trodAll_cons_mk (Below.trod laidOut (by kernel_rfl) (of_decide_eq_true (by kernel_rfl)) k0 bel lt0) (trodAll_cons_mk (Below.trod laidOut (by kernel_rfl) (of_decide_eq_true (by kernel_rfl)) k1 bel lt1) trodAll_mk0)), DR.vars_read enc (DR.var_below hv bel) _, bel.frame _, fun h => by cases h⟩

theorem said : Rows.FnSpanMeetSaid :=
  OpenClaim.holds_of_wide 4 Tryd.f4 rfl rfl rfl rfl rfl rfl rfl ⟨rfl, rfl, rfl, rfl, rfl⟩ rfl rfl rfl rfl rfl (by kernel_rfl) Tryd.func4 (by kernel_rfl)
    (of_decide_eq_true (by kernel_rfl)) (by unfold Func.isWrapper; first | (rw [if_pos (by decide +kernel)]; kernel_rfl) | (rw [if_neg (by decide +kernel)]; exact ⟨rfl, rfl⟩))
    (fun os started H enc _ => lifted os started H enc)

theorem plain (f : FuncId) (fn : Func) (hf : Tryd.pinned.checked.prog.funcNamed "loop.example/alidade/laws.FnSpanMeet" = some f) (hfn : Tryd.pinned.checked.prog.funcs[f]? = some fn) :
    true = Tryd.pinned.checked.prog.looks [] ∧ ∀ (j : Nat) t, fn.params[j]? = some t → Tryd.pinned.checked.prog.wantsStandIn t = false := by
  obtain rfl : f = 4 := Option.some.inj ((show Tryd.prog.funcNamed "loop.example/alidade/laws.FnSpanMeet" = some 4 by kernel_rfl).symm.trans hf) |>.symm
  obtain rfl : fn = Tryd.f4 := (Option.some.inj (Tryd.func4.symm.trans hfn)).symm
  refine ⟨by kernel_rfl, fun j t ht => ?_⟩
  rw [Tryd.params4] at ht
  have hm : t ∈ [22, 22] := by
    have := Array.mem_of_getElem? ht
    simpa using this
  have hall : ([22, 22].all fun u => !Tryd.prog.wantsStandIn u) = true := by kernel_rfl
  exact (show Tryd.prog.wantsStandIn t = false by simpa using List.all_eq_true.1 hall t hm)

theorem card : Rows.FnSpanMeetCardSaid :=
  Claim7.holds_tied_plain_at .later [] _ _ _ _ said (fun _ h => by cases h) (by kernel_rfl) (fun _ h => by cases h) fnSpanMeet_row_tie rfl ⟨rfl, rfl⟩ (by kernel_rfl) rfl plain (by kernel_rfl)
end Go.Proofs.YtldogjldnckdmacDoor.fnSpanMeet
namespace Go.Proofs.YtldogjldnckdmacDoor
theorem fnSpanMeet_holds : Rows.FnSpanMeetCardSaid := fnSpanMeet.card
#print axioms fnSpanMeet_holds
end Go.Proofs.YtldogjldnckdmacDoor
