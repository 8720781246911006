/-
  For every two codes of bytes the law of SineOf returns true: the sine of the sum of two drawn angles has something in common with what is made of both angles' sines and cosines. The package's variable errTooGreat is as the program's text lays it.
-/
import Derived.Test.YthefibnjaoimgahDoorCards
import Derived.Test.YthefibnjaoimgahDoorTie
import Derived.Test.YthefibnjaoimgahDoorDoorKit
import Derived.WalkKit
import Derived.ProofKit
import Derived.OpenShut
import Derived.ShutString
import Derived.ChangeOld
import Derived.Below
import Derived.LaidMore
import Derived.Stop.Joined
import Derived.SevenTiedAt
import Derived.Test.YthefibnjaoimgahDoorSineImpl
import Derived.Test.YthefibnjaoimgahDoorDrawSine
import Derived.Test.YthefibnjaoimgahDoorSineLaws
import Derived.Test.YthefibnjaoimgahDoorSpanWalks
import Derived.Test.YthefibnjaoimgahDoorSpanWalks2
import Derived.Test.YthefibnjaoimgahDoorKeptStep
import Derived.Test.YthefibnjaoimgahDoorSpanWalks3
namespace Go.Proofs.YthefibnjaoimgahDoor.fnSineSum
open Go.ChangeShapes Go.WideShapes Go.ChangeAt Go.RowKit Go.Sort
set_option linter.unusedVariables false

theorem own : ownKnob Tryd.prog.godebug = none := by kernel_rfl
theorem laidOut : laidOutB Tryd.prog = true := by kernel_rfl
/-- What the walk is told of a slice of bytes that came in. -/
def IsRow (k : IntKind) (w : World) (a : Option Addr) (len cap : Nat) (zs : List Int) : Prop :=
  (a = none ∧ len = 0 ∧ cap = 0 ∧ zs = []) ∨
  ∃ x, a = some x ∧ len ≤ cap ∧ cap ≤ maxLen ∧ zs.length = cap ∧ (∀ i, i < zs.length → w.cell? (x.add i) = some (.int k (zs.getD i 0))) ∧ ∀ n ∈ zs, (Lit.int k n).wf = true
theorem add_none (b off i : Nat) : (⟨b, off, none⟩ : Addr).add i = ⟨b, off + i, none⟩ := by
  unfold Addr.add
  split
  · rename_i h
    subst h
    rfl
  · rfl
theorem src {w : World} {a : Option Addr} {len cap : Nat} {zs : List Int} (h : IsRow .u8 w a len cap zs) : DK.Src w a len cap := by
  rcases h with ⟨rfl, rfl, rfl, rfl⟩ | ⟨x, rfl, hl, hm, hz, hcell, hwz⟩
  · exact ⟨by omega, by omega, .inl rfl⟩
  · unfold maxLen at hm
    refine ⟨hl, by omega, ?_⟩
    by_cases h0 : len = 0
    · exact .inl h0
    · obtain ⟨b, off, spot⟩ := x
      have hc := hcell 0 (by omega)
      have hspot : spot = none := by simpa [Addr.add] using World.cell?_spot hc
      subst hspot
      refine .inr ⟨b, off, rfl, fun i hi => ?_⟩
      have hi2 : i < zs.length := by omega
      have hb := bounds_u8 (hwz (zs.getD i 0) (by simp [List.getD, hi2]))
      have hci := hcell i hi2
      rw [add_none] at hci
      exact ⟨zs.getD i 0, hb.1, hb.2, hci⟩

theorem meet_yes (sl sh tl th : Int) (h1 : sl ≤ th) (h2 : tl ≤ sh) (w : World) : Calls Tryd.prog 16 #[SK.spV sl sh, SK.spV tl th] w fun e w' => e = .returned (.bool true) ∧ Below w.heap.size w w' := by
  go_enter Tryd.func16, Tryd.ntmps16
  go_wp2
  go_ret
  exact ⟨rfl, SK.below_new2 _ _ _⟩
theorem some_sine (a : Int) : ∃ (lo hi : Int) (c : Bool), ∀ w, Calls Tryd.prog 9 #[.int .i64 a] w fun e w' => e = .returned (.tuple #[SK.spV lo hi, .bool c]) ∧ Below w.heap.size w w' := ⟨_, _, _, fun w => SK.sineOf_any a w⟩
set_option maxHeartbeats 8000000 in

set_option maxHeartbeats 8000000 in
theorem walk (a0 : Option Addr) (len0 cap0 : Nat) (z0 : List Int) (a1 : Option Addr) (len1 cap1 : Nat) (z1 : List Int) (sa : Addr) (w : World) (w0 : IsRow .u8 w a0 len0 cap0 z0) (w1' : IsRow .u8 w a1 len1 cap1 z1) (hs : SW.Sn sa w) :
    Calls Tryd.prog 6 #[.slice a0 len0 cap0, .slice a1 len1 cap1] w fun e w' => e = .returned (.bool true) ∧ Below w.heap.size w w' := by
  by_cases hl : (len0 : Int) ≤ 1048576
  · by_cases hm : (len1 : Int) ≤ 1048576
    · go_enter Tryd.func6, Tryd.ntmps6
      go_wp2_with fail
      refine (DW.drawSineOf_any _ _ _ _ (src w0)).mono ?_
      rintro e v1 ⟨x, rfl, x0, x1, Bx⟩
      have B := Bx
      replace hs := hs.kept Bx
      clear Bx
      go_wp2_with fail
      refine (DW.drawCosOf_any _ _ _ _ ((src w1').kept B)).mono ?_
      rintro e v2 ⟨y, rfl, y0, y1, Bx⟩
      replace B := SK.below1 B Bx
      replace hs := hs.kept Bx
      clear Bx
      cases hx : SK.okA x
      · have F1 : ∀ w, Calls Tryd.prog 8 #[.int .i64 (x)] w fun e w' => e = .returned (.tuple #[SK.spV (0) (0), .bool false]) ∧ Below w.heap.size w w' := fun w => by have := SK.sSineOf_any (x) w; rw [hx] at this; exact this
        have F2 : ∀ w, Calls Tryd.prog 9 #[.int .i64 (x)] w fun e w' => e = .returned (.tuple #[SK.spV (0) (0), .bool false]) ∧ Below w.heap.size w w' := fun w => by have := SK.sineOf_any (x) w; rw [hx] at this; exact this
        obtain ⟨ul, uh, uc, F3⟩ := some_sine (x + y)
        obtain ⟨yl, yh, yc, F4⟩ := some_sine y
        go_wp2_with fail
        refine (F1 _).mono ?_
        rintro e v3 ⟨rfl, Bx⟩
        replace B := SK.below1 B Bx
        replace hs := hs.kept Bx
        clear Bx
        have X := SK.Box.new v3 (0) (0) 25
        replace B := SK.below1 B (SK.below_new v3 (.cells #[.int .i64 (0), .int .i64 (0)] 25))
        replace hs := hs.alloc (.cells #[.int .i64 (0), .int .i64 (0)] 25)
        have ⟨Xc0, Xc1, Xf0, Xf1⟩ := X
        go_wp2_with fail
        refine (F2 _).mono ?_
        rintro e v4 ⟨rfl, Bx⟩
        clear Xc0 Xc1 Xf0 Xf1
        replace X := X.kept Bx
        replace B := SK.below1 B Bx
        replace hs := hs.kept Bx
        clear Bx
        replace X := X.alloc (.cells #[.int .i64 (0), .int .i64 (0)] 25)
        have Y := SK.Box.new v4 (0) (0) 25
        replace B := SK.below1 B (SK.below_new v4 (.cells #[.int .i64 (0), .int .i64 (0)] 25))
        replace hs := hs.alloc (.cells #[.int .i64 (0), .int .i64 (0)] 25)
        have ⟨Xc0, Xc1, Xf0, Xf1⟩ := X
        have ⟨Yc0, Yc1, Yf0, Yf1⟩ := Y
        go_wp2_with fail
        refine (F3 _).mono ?_
        rintro e v5 ⟨rfl, Bx⟩
        clear Xc0 Xc1 Xf0 Xf1 Yc0 Yc1 Yf0 Yf1
        replace X := X.kept Bx
        replace Y := Y.kept Bx
        replace B := SK.below1 B Bx
        replace hs := hs.kept Bx
        clear Bx
        replace X := X.alloc (.cells #[.int .i64 (ul), .int .i64 (uh)] 25)
        replace Y := Y.alloc (.cells #[.int .i64 (ul), .int .i64 (uh)] 25)
        have Z := SK.Box.new v5 (ul) (uh) 25
        replace B := SK.below1 B (SK.below_new v5 (.cells #[.int .i64 (ul), .int .i64 (uh)] 25))
        replace hs := hs.alloc (.cells #[.int .i64 (ul), .int .i64 (uh)] 25)
        have ⟨Xc0, Xc1, Xf0, Xf1⟩ := X
        have ⟨Yc0, Yc1, Yf0, Yf1⟩ := Y
        have ⟨Zc0, Zc1, Zf0, Zf1⟩ := Z
        go_wp2_with fail
        refine (F4 _).mono ?_
        rintro e v6 ⟨rfl, Bx⟩
        clear Xc0 Xc1 Xf0 Xf1 Yc0 Yc1 Yf0 Yf1 Zc0 Zc1 Zf0 Zf1
        replace X := X.kept Bx
        replace Y := Y.kept Bx
        replace Z := Z.kept Bx
        replace B := SK.below1 B Bx
        replace hs := hs.kept Bx
        clear Bx
        replace X := X.alloc (.cells #[.int .i64 (yl), .int .i64 (yh)] 25)
        replace Y := Y.alloc (.cells #[.int .i64 (yl), .int .i64 (yh)] 25)
        replace Z := Z.alloc (.cells #[.int .i64 (yl), .int .i64 (yh)] 25)
        have U := SK.Box.new v6 (yl) (yh) 25
        replace B := SK.below1 B (SK.below_new v6 (.cells #[.int .i64 (yl), .int .i64 (yh)] 25))
        replace hs := hs.alloc (.cells #[.int .i64 (yl), .int .i64 (yh)] 25)
        have ⟨Xc0, Xc1, Xf0, Xf1⟩ := X
        have ⟨Yc0, Yc1, Yf0, Yf1⟩ := Y
        have ⟨Zc0, Zc1, Zf0, Zf1⟩ := Z
        have ⟨Uc0, Uc1, Uf0, Uf1⟩ := U
        go_wp2
        go_ret
        exact ⟨rfl, B⟩
      · cases hz : SK.okA (x + y)
        · have F1 : ∀ w, Calls Tryd.prog 8 #[.int .i64 (x)] w fun e w' => e = .returned (.tuple #[SK.spV (SI.siL (2 * x)) (SI.siH (2 * x)), .bool true]) ∧ Below w.heap.size w w' := fun w => by have := SK.sSineOf_any (x) w; rw [hx] at this; exact this
          have F2 : ∀ w, Calls Tryd.prog 9 #[.int .i64 (x)] w fun e w' => e = .returned (.tuple #[SK.spV (SI.siL (2 * x)) (SI.siH (2 * x)), .bool true]) ∧ Below w.heap.size w w' := fun w => by have := SK.sineOf_any (x) w; rw [hx] at this; exact this
          have F3 : ∀ w, Calls Tryd.prog 9 #[.int .i64 (x + y)] w fun e w' => e = .returned (.tuple #[SK.spV (0) (0), .bool false]) ∧ Below w.heap.size w w' := fun w => by have := SK.sineOf_any (x + y) w; rw [hz] at this; exact this
          obtain ⟨yl, yh, yc, F4⟩ := some_sine y
          generalize SI.siL (2 * x) = p at *
          generalize SI.siH (2 * x) = q at *
          go_wp2_with fail
          refine (F1 _).mono ?_
          rintro e v3 ⟨rfl, Bx⟩
          replace B := SK.below1 B Bx
          replace hs := hs.kept Bx
          clear Bx
          have X := SK.Box.new v3 (p) (q) 25
          replace B := SK.below1 B (SK.below_new v3 (.cells #[.int .i64 (p), .int .i64 (q)] 25))
          replace hs := hs.alloc (.cells #[.int .i64 (p), .int .i64 (q)] 25)
          have ⟨Xc0, Xc1, Xf0, Xf1⟩ := X
          go_wp2_with fail
          refine (F2 _).mono ?_
          rintro e v4 ⟨rfl, Bx⟩
          clear Xc0 Xc1 Xf0 Xf1
          replace X := X.kept Bx
          replace B := SK.below1 B Bx
          replace hs := hs.kept Bx
          clear Bx
          replace X := X.alloc (.cells #[.int .i64 (p), .int .i64 (q)] 25)
          have Y := SK.Box.new v4 (p) (q) 25
          replace B := SK.below1 B (SK.below_new v4 (.cells #[.int .i64 (p), .int .i64 (q)] 25))
          replace hs := hs.alloc (.cells #[.int .i64 (p), .int .i64 (q)] 25)
          have ⟨Xc0, Xc1, Xf0, Xf1⟩ := X
          have ⟨Yc0, Yc1, Yf0, Yf1⟩ := Y
          go_wp2_with fail
          refine (F3 _).mono ?_
          rintro e v5 ⟨rfl, Bx⟩
          clear Xc0 Xc1 Xf0 Xf1 Yc0 Yc1 Yf0 Yf1
          replace X := X.kept Bx
          replace Y := Y.kept Bx
          replace B := SK.below1 B Bx
          replace hs := hs.kept Bx
          clear Bx
          replace X := X.alloc (.cells #[.int .i64 (0), .int .i64 (0)] 25)
          replace Y := Y.alloc (.cells #[.int .i64 (0), .int .i64 (0)] 25)
          have Z := SK.Box.new v5 (0) (0) 25
          replace B := SK.below1 B (SK.below_new v5 (.cells #[.int .i64 (0), .int .i64 (0)] 25))
          replace hs := hs.alloc (.cells #[.int .i64 (0), .int .i64 (0)] 25)
          have ⟨Xc0, Xc1, Xf0, Xf1⟩ := X
          have ⟨Yc0, Yc1, Yf0, Yf1⟩ := Y
          have ⟨Zc0, Zc1, Zf0, Zf1⟩ := Z
          go_wp2_with fail
          refine (F4 _).mono ?_
          rintro e v6 ⟨rfl, Bx⟩
          clear Xc0 Xc1 Xf0 Xf1 Yc0 Yc1 Yf0 Yf1 Zc0 Zc1 Zf0 Zf1
          replace X := X.kept Bx
          replace Y := Y.kept Bx
          replace Z := Z.kept Bx
          replace B := SK.below1 B Bx
          replace hs := hs.kept Bx
          clear Bx
          replace X := X.alloc (.cells #[.int .i64 (yl), .int .i64 (yh)] 25)
          replace Y := Y.alloc (.cells #[.int .i64 (yl), .int .i64 (yh)] 25)
          replace Z := Z.alloc (.cells #[.int .i64 (yl), .int .i64 (yh)] 25)
          have U := SK.Box.new v6 (yl) (yh) 25
          replace B := SK.below1 B (SK.below_new v6 (.cells #[.int .i64 (yl), .int .i64 (yh)] 25))
          replace hs := hs.alloc (.cells #[.int .i64 (yl), .int .i64 (yh)] 25)
          have ⟨Xc0, Xc1, Xf0, Xf1⟩ := X
          have ⟨Yc0, Yc1, Yf0, Yf1⟩ := Y
          have ⟨Zc0, Zc1, Zf0, Zf1⟩ := Z
          have ⟨Uc0, Uc1, Uf0, Uf1⟩ := U
          go_wp2
          go_ret
          exact ⟨rfl, B⟩
        · cases hy : SK.okA y
          · have F1 : ∀ w, Calls Tryd.prog 8 #[.int .i64 (x)] w fun e w' => e = .returned (.tuple #[SK.spV (SI.siL (2 * x)) (SI.siH (2 * x)), .bool true]) ∧ Below w.heap.size w w' := fun w => by have := SK.sSineOf_any (x) w; rw [hx] at this; exact this
            have F2 : ∀ w, Calls Tryd.prog 9 #[.int .i64 (x)] w fun e w' => e = .returned (.tuple #[SK.spV (SI.siL (2 * x)) (SI.siH (2 * x)), .bool true]) ∧ Below w.heap.size w w' := fun w => by have := SK.sineOf_any (x) w; rw [hx] at this; exact this
            have F3 : ∀ w, Calls Tryd.prog 9 #[.int .i64 (x + y)] w fun e w' => e = .returned (.tuple #[SK.spV (SI.siL (2 * (x + y))) (SI.siH (2 * (x + y))), .bool true]) ∧ Below w.heap.size w w' := fun w => by have := SK.sineOf_any (x + y) w; rw [hz] at this; exact this
            generalize SI.siL (2 * (x + y)) = ul at *
            generalize SI.siH (2 * (x + y)) = uh at *
            have F4 : ∀ w, Calls Tryd.prog 9 #[.int .i64 (y)] w fun e w' => e = .returned (.tuple #[SK.spV (0) (0), .bool false]) ∧ Below w.heap.size w w' := fun w => by have := SK.sineOf_any (y) w; rw [hy] at this; exact this
            generalize SI.siL (2 * x) = p at *
            generalize SI.siH (2 * x) = q at *
            go_wp2_with fail
            refine (F1 _).mono ?_
            rintro e v3 ⟨rfl, Bx⟩
            replace B := SK.below1 B Bx
            replace hs := hs.kept Bx
            clear Bx
            have X := SK.Box.new v3 (p) (q) 25
            replace B := SK.below1 B (SK.below_new v3 (.cells #[.int .i64 (p), .int .i64 (q)] 25))
            replace hs := hs.alloc (.cells #[.int .i64 (p), .int .i64 (q)] 25)
            have ⟨Xc0, Xc1, Xf0, Xf1⟩ := X
            go_wp2_with fail
            refine (F2 _).mono ?_
            rintro e v4 ⟨rfl, Bx⟩
            clear Xc0 Xc1 Xf0 Xf1
            replace X := X.kept Bx
            replace B := SK.below1 B Bx
            replace hs := hs.kept Bx
            clear Bx
            replace X := X.alloc (.cells #[.int .i64 (p), .int .i64 (q)] 25)
            have Y := SK.Box.new v4 (p) (q) 25
            replace B := SK.below1 B (SK.below_new v4 (.cells #[.int .i64 (p), .int .i64 (q)] 25))
            replace hs := hs.alloc (.cells #[.int .i64 (p), .int .i64 (q)] 25)
            have ⟨Xc0, Xc1, Xf0, Xf1⟩ := X
            have ⟨Yc0, Yc1, Yf0, Yf1⟩ := Y
            go_wp2_with fail
            refine (F3 _).mono ?_
            rintro e v5 ⟨rfl, Bx⟩
            clear Xc0 Xc1 Xf0 Xf1 Yc0 Yc1 Yf0 Yf1
            replace X := X.kept Bx
            replace Y := Y.kept Bx
            replace B := SK.below1 B Bx
            replace hs := hs.kept Bx
            clear Bx
            replace X := X.alloc (.cells #[.int .i64 (ul), .int .i64 (uh)] 25)
            replace Y := Y.alloc (.cells #[.int .i64 (ul), .int .i64 (uh)] 25)
            have Z := SK.Box.new v5 (ul) (uh) 25
            replace B := SK.below1 B (SK.below_new v5 (.cells #[.int .i64 (ul), .int .i64 (uh)] 25))
            replace hs := hs.alloc (.cells #[.int .i64 (ul), .int .i64 (uh)] 25)
            have ⟨Xc0, Xc1, Xf0, Xf1⟩ := X
            have ⟨Yc0, Yc1, Yf0, Yf1⟩ := Y
            have ⟨Zc0, Zc1, Zf0, Zf1⟩ := Z
            go_wp2_with fail
            refine (F4 _).mono ?_
            rintro e v6 ⟨rfl, Bx⟩
            clear Xc0 Xc1 Xf0 Xf1 Yc0 Yc1 Yf0 Yf1 Zc0 Zc1 Zf0 Zf1
            replace X := X.kept Bx
            replace Y := Y.kept Bx
            replace Z := Z.kept Bx
            replace B := SK.below1 B Bx
            replace hs := hs.kept Bx
            clear Bx
            replace X := X.alloc (.cells #[.int .i64 (0), .int .i64 (0)] 25)
            replace Y := Y.alloc (.cells #[.int .i64 (0), .int .i64 (0)] 25)
            replace Z := Z.alloc (.cells #[.int .i64 (0), .int .i64 (0)] 25)
            have U := SK.Box.new v6 (0) (0) 25
            replace B := SK.below1 B (SK.below_new v6 (.cells #[.int .i64 (0), .int .i64 (0)] 25))
            replace hs := hs.alloc (.cells #[.int .i64 (0), .int .i64 (0)] 25)
            have ⟨Xc0, Xc1, Xf0, Xf1⟩ := X
            have ⟨Yc0, Yc1, Yf0, Yf1⟩ := Y
            have ⟨Zc0, Zc1, Zf0, Zf1⟩ := Z
            have ⟨Uc0, Uc1, Uf0, Uf1⟩ := U
            go_wp2
            go_ret
            exact ⟨rfl, B⟩
          · have e1 : 2 * (x + y) = 2 * x + 2 * y := by omega
            have F1 : ∀ w, Calls Tryd.prog 8 #[.int .i64 (x)] w fun e w' => e = .returned (.tuple #[SK.spV (SI.siL (2 * x)) (SI.siH (2 * x)), .bool true]) ∧ Below w.heap.size w w' := fun w => by have := SK.sSineOf_any (x) w; rw [hx] at this; exact this
            have F2 : ∀ w, Calls Tryd.prog 9 #[.int .i64 (x)] w fun e w' => e = .returned (.tuple #[SK.spV (SI.siL (2 * x)) (SI.siH (2 * x)), .bool true]) ∧ Below w.heap.size w w' := fun w => by have := SK.sineOf_any (x) w; rw [hx] at this; exact this
            have F3 : ∀ w, Calls Tryd.prog 9 #[.int .i64 (x + y)] w fun e w' => e = .returned (.tuple #[SK.spV (SI.siL (2 * x + 2 * y)) (SI.siH (2 * x + 2 * y)), .bool true]) ∧ Below w.heap.size w w' := fun w => by have := SK.sineOf_any (x + y) w; rw [hz, e1] at this; exact this
            have F4 : ∀ w, Calls Tryd.prog 9 #[.int .i64 (y)] w fun e w' => e = .returned (.tuple #[SK.spV (SI.siL (2 * y)) (SI.siH (2 * y)), .bool true]) ∧ Below w.heap.size w w' := fun w => by have := SK.sineOf_any (y) w; rw [hy] at this; exact this
            have F5 : ∀ w, Calls Tryd.prog 11 #[.int .i64 (x)] w fun e w' => e = .returned (.tuple #[SK.spV (SI.siL (2 * x + 64800000)) (SI.siH (2 * x + 64800000)), .bool true]) ∧ Below w.heap.size w w' := fun w => by have := SK.cosOf_any (x) w; rw [hx] at this; exact this
            have F6 : ∀ w, Calls Tryd.prog 11 #[.int .i64 (y)] w fun e w' => e = .returned (.tuple #[SK.spV (SI.siL (2 * y + 64800000)) (SI.siH (2 * y + 64800000)), .bool true]) ∧ Below w.heap.size w w' := fun w => by have := SK.cosOf_any (y) w; rw [hy] at this; exact this
            have F7 : ∀ w, SW.Sn sa w → Calls Tryd.prog 12 #[SK.spV (SI.siL (2 * x)) (SI.siH (2 * x)), SK.spV (SI.siL (2 * y + 64800000)) (SI.siH (2 * y + 64800000))] w fun e w' => e = .returned (.tuple #[SK.spV (SM.mulLo (SI.siL (2 * x)) (SI.siH (2 * x)) (SI.siL (2 * y + 64800000)) (SI.siH (2 * y + 64800000))) (SM.mulHi (SI.siL (2 * x)) (SI.siH (2 * x)) (SI.siL (2 * y + 64800000)) (SI.siH (2 * y + 64800000))), .bool true]) ∧ Below w.heap.size w w' := fun w h => by have := SW.spanMul_any (SI.siL (2 * x)) (SI.siH (2 * x)) (SI.siL (2 * y + 64800000)) (SI.siH (2 * y + 64800000)) sa w h; rw [SI.okMul (2 * x) (2 * y + 64800000)] at this; exact this
            have F8 : ∀ w, SW.Sn sa w → Calls Tryd.prog 12 #[SK.spV (SI.siL (2 * x + 64800000)) (SI.siH (2 * x + 64800000)), SK.spV (SI.siL (2 * y)) (SI.siH (2 * y))] w fun e w' => e = .returned (.tuple #[SK.spV (SM.mulLo (SI.siL (2 * x + 64800000)) (SI.siH (2 * x + 64800000)) (SI.siL (2 * y)) (SI.siH (2 * y))) (SM.mulHi (SI.siL (2 * x + 64800000)) (SI.siH (2 * x + 64800000)) (SI.siL (2 * y)) (SI.siH (2 * y))), .bool true]) ∧ Below w.heap.size w w' := fun w h => by have := SW.spanMul_any (SI.siL (2 * x + 64800000)) (SI.siH (2 * x + 64800000)) (SI.siL (2 * y)) (SI.siH (2 * y)) sa w h; rw [SI.okMul (2 * x + 64800000) (2 * y)] at this; exact this
            obtain ⟨k1, k2, k3⟩ := SI.mul_fit (SI.si_enc (2 * x)).2 (SI.si_enc (2 * y + 64800000)).2
            obtain ⟨l1, l2, l3⟩ := SI.mul_fit (SI.si_enc (2 * x + 64800000)).2 (SI.si_enc (2 * y)).2
            obtain ⟨j1, j2⟩ := SI.sine_sum (2 * x) (2 * y)
            clear e1 hx hy hz
            generalize SM.mulLo (SI.siL (2 * x)) (SI.siH (2 * x)) (SI.siL (2 * y + 64800000)) (SI.siH (2 * y + 64800000)) = ml at *
            generalize SM.mulHi (SI.siL (2 * x)) (SI.siH (2 * x)) (SI.siL (2 * y + 64800000)) (SI.siH (2 * y + 64800000)) = mh at *
            generalize SM.mulLo (SI.siL (2 * x + 64800000)) (SI.siH (2 * x + 64800000)) (SI.siL (2 * y)) (SI.siH (2 * y)) = nl at *
            generalize SM.mulHi (SI.siL (2 * x + 64800000)) (SI.siH (2 * x + 64800000)) (SI.siL (2 * y)) (SI.siH (2 * y)) = nh at *
            generalize SI.siL (2 * x + 2 * y) = ul at *
            generalize SI.siH (2 * x + 2 * y) = uh at *
            generalize SI.siL (2 * y + 64800000) = dl at *
            generalize SI.siH (2 * y + 64800000) = dh at *
            generalize SI.siL (2 * x + 64800000) = cl at *
            generalize SI.siH (2 * x + 64800000) = ch at *
            generalize SI.siL (2 * y) = tl at *
            generalize SI.siH (2 * y) = th at *
            generalize SI.siL (2 * x) = p at *
            generalize SI.siH (2 * x) = q at *
            go_wp2_with fail
            refine (F1 _).mono ?_
            rintro e v3 ⟨rfl, Bx⟩
            replace B := SK.below1 B Bx
            replace hs := hs.kept Bx
            clear Bx
            have X := SK.Box.new v3 (p) (q) 25
            replace B := SK.below1 B (SK.below_new v3 (.cells #[.int .i64 (p), .int .i64 (q)] 25))
            replace hs := hs.alloc (.cells #[.int .i64 (p), .int .i64 (q)] 25)
            have ⟨Xc0, Xc1, Xf0, Xf1⟩ := X
            go_wp2_with fail
            refine (F2 _).mono ?_
            rintro e v4 ⟨rfl, Bx⟩
            clear Xc0 Xc1 Xf0 Xf1
            replace X := X.kept Bx
            replace B := SK.below1 B Bx
            replace hs := hs.kept Bx
            clear Bx
            replace X := X.alloc (.cells #[.int .i64 (p), .int .i64 (q)] 25)
            have Y := SK.Box.new v4 (p) (q) 25
            replace B := SK.below1 B (SK.below_new v4 (.cells #[.int .i64 (p), .int .i64 (q)] 25))
            replace hs := hs.alloc (.cells #[.int .i64 (p), .int .i64 (q)] 25)
            have ⟨Xc0, Xc1, Xf0, Xf1⟩ := X
            have ⟨Yc0, Yc1, Yf0, Yf1⟩ := Y
            go_wp2_with fail
            refine (F3 _).mono ?_
            rintro e v5 ⟨rfl, Bx⟩
            clear Xc0 Xc1 Xf0 Xf1 Yc0 Yc1 Yf0 Yf1
            replace X := X.kept Bx
            replace Y := Y.kept Bx
            replace B := SK.below1 B Bx
            replace hs := hs.kept Bx
            clear Bx
            replace X := X.alloc (.cells #[.int .i64 (ul), .int .i64 (uh)] 25)
            replace Y := Y.alloc (.cells #[.int .i64 (ul), .int .i64 (uh)] 25)
            have Z := SK.Box.new v5 (ul) (uh) 25
            replace B := SK.below1 B (SK.below_new v5 (.cells #[.int .i64 (ul), .int .i64 (uh)] 25))
            replace hs := hs.alloc (.cells #[.int .i64 (ul), .int .i64 (uh)] 25)
            have ⟨Xc0, Xc1, Xf0, Xf1⟩ := X
            have ⟨Yc0, Yc1, Yf0, Yf1⟩ := Y
            have ⟨Zc0, Zc1, Zf0, Zf1⟩ := Z
            go_wp2_with fail
            refine (F4 _).mono ?_
            rintro e v6 ⟨rfl, Bx⟩
            clear Xc0 Xc1 Xf0 Xf1 Yc0 Yc1 Yf0 Yf1 Zc0 Zc1 Zf0 Zf1
            replace X := X.kept Bx
            replace Y := Y.kept Bx
            replace Z := Z.kept Bx
            replace B := SK.below1 B Bx
            replace hs := hs.kept Bx
            clear Bx
            replace X := X.alloc (.cells #[.int .i64 (tl), .int .i64 (th)] 25)
            replace Y := Y.alloc (.cells #[.int .i64 (tl), .int .i64 (th)] 25)
            replace Z := Z.alloc (.cells #[.int .i64 (tl), .int .i64 (th)] 25)
            have U := SK.Box.new v6 (tl) (th) 25
            replace B := SK.below1 B (SK.below_new v6 (.cells #[.int .i64 (tl), .int .i64 (th)] 25))
            replace hs := hs.alloc (.cells #[.int .i64 (tl), .int .i64 (th)] 25)
            have ⟨Xc0, Xc1, Xf0, Xf1⟩ := X
            have ⟨Yc0, Yc1, Yf0, Yf1⟩ := Y
            have ⟨Zc0, Zc1, Zf0, Zf1⟩ := Z
            have ⟨Uc0, Uc1, Uf0, Uf1⟩ := U
            go_wp2_with fail
            refine (F5 _).mono ?_
            rintro e v7 ⟨rfl, Bx⟩
            clear Xc0 Xc1 Xf0 Xf1 Yc0 Yc1 Yf0 Yf1 Zc0 Zc1 Zf0 Zf1 Uc0 Uc1 Uf0 Uf1
            replace X := X.kept Bx
            replace Y := Y.kept Bx
            replace Z := Z.kept Bx
            replace U := U.kept Bx
            replace B := SK.below1 B Bx
            replace hs := hs.kept Bx
            clear Bx
            replace X := X.alloc (.cells #[.int .i64 (cl), .int .i64 (ch)] 25)
            replace Y := Y.alloc (.cells #[.int .i64 (cl), .int .i64 (ch)] 25)
            replace Z := Z.alloc (.cells #[.int .i64 (cl), .int .i64 (ch)] 25)
            replace U := U.alloc (.cells #[.int .i64 (cl), .int .i64 (ch)] 25)
            have V := SK.Box.new v7 (cl) (ch) 25
            replace B := SK.below1 B (SK.below_new v7 (.cells #[.int .i64 (cl), .int .i64 (ch)] 25))
            replace hs := hs.alloc (.cells #[.int .i64 (cl), .int .i64 (ch)] 25)
            have ⟨Xc0, Xc1, Xf0, Xf1⟩ := X
            have ⟨Yc0, Yc1, Yf0, Yf1⟩ := Y
            have ⟨Zc0, Zc1, Zf0, Zf1⟩ := Z
            have ⟨Uc0, Uc1, Uf0, Uf1⟩ := U
            have ⟨Vc0, Vc1, Vf0, Vf1⟩ := V
            go_wp2_with fail
            refine (F6 _).mono ?_
            rintro e v8 ⟨rfl, Bx⟩
            clear Xc0 Xc1 Xf0 Xf1 Yc0 Yc1 Yf0 Yf1 Zc0 Zc1 Zf0 Zf1 Uc0 Uc1 Uf0 Uf1 Vc0 Vc1 Vf0 Vf1
            replace X := X.kept Bx
            replace Y := Y.kept Bx
            replace Z := Z.kept Bx
            replace U := U.kept Bx
            replace V := V.kept Bx
            replace B := SK.below1 B Bx
            replace hs := hs.kept Bx
            clear Bx
            replace X := X.alloc (.cells #[.int .i64 (dl), .int .i64 (dh)] 25)
            replace Y := Y.alloc (.cells #[.int .i64 (dl), .int .i64 (dh)] 25)
            replace Z := Z.alloc (.cells #[.int .i64 (dl), .int .i64 (dh)] 25)
            replace U := U.alloc (.cells #[.int .i64 (dl), .int .i64 (dh)] 25)
            replace V := V.alloc (.cells #[.int .i64 (dl), .int .i64 (dh)] 25)
            have T := SK.Box.new v8 (dl) (dh) 25
            replace B := SK.below1 B (SK.below_new v8 (.cells #[.int .i64 (dl), .int .i64 (dh)] 25))
            replace hs := hs.alloc (.cells #[.int .i64 (dl), .int .i64 (dh)] 25)
            have ⟨Xc0, Xc1, Xf0, Xf1⟩ := X
            have ⟨Yc0, Yc1, Yf0, Yf1⟩ := Y
            have ⟨Zc0, Zc1, Zf0, Zf1⟩ := Z
            have ⟨Uc0, Uc1, Uf0, Uf1⟩ := U
            have ⟨Vc0, Vc1, Vf0, Vf1⟩ := V
            have ⟨Tc0, Tc1, Tf0, Tf1⟩ := T
            go_wp2_with fail
            refine (F7 _ hs).mono ?_
            rintro e v9 ⟨rfl, Bx⟩
            clear Xc0 Xc1 Xf0 Xf1 Yc0 Yc1 Yf0 Yf1 Zc0 Zc1 Zf0 Zf1 Uc0 Uc1 Uf0 Uf1 Vc0 Vc1 Vf0 Vf1 Tc0 Tc1 Tf0 Tf1
            replace X := X.kept Bx
            replace Y := Y.kept Bx
            replace Z := Z.kept Bx
            replace U := U.kept Bx
            replace V := V.kept Bx
            replace T := T.kept Bx
            replace B := SK.below1 B Bx
            replace hs := hs.kept Bx
            clear Bx
            replace X := X.alloc (.cells #[.int .i64 (ml), .int .i64 (mh)] 25)
            replace Y := Y.alloc (.cells #[.int .i64 (ml), .int .i64 (mh)] 25)
            replace Z := Z.alloc (.cells #[.int .i64 (ml), .int .i64 (mh)] 25)
            replace U := U.alloc (.cells #[.int .i64 (ml), .int .i64 (mh)] 25)
            replace V := V.alloc (.cells #[.int .i64 (ml), .int .i64 (mh)] 25)
            replace T := T.alloc (.cells #[.int .i64 (ml), .int .i64 (mh)] 25)
            have M := SK.Box.new v9 (ml) (mh) 25
            replace B := SK.below1 B (SK.below_new v9 (.cells #[.int .i64 (ml), .int .i64 (mh)] 25))
            replace hs := hs.alloc (.cells #[.int .i64 (ml), .int .i64 (mh)] 25)
            have ⟨Xc0, Xc1, Xf0, Xf1⟩ := X
            have ⟨Yc0, Yc1, Yf0, Yf1⟩ := Y
            have ⟨Zc0, Zc1, Zf0, Zf1⟩ := Z
            have ⟨Uc0, Uc1, Uf0, Uf1⟩ := U
            have ⟨Vc0, Vc1, Vf0, Vf1⟩ := V
            have ⟨Tc0, Tc1, Tf0, Tf1⟩ := T
            have ⟨Mc0, Mc1, Mf0, Mf1⟩ := M
            go_wp2_with fail
            refine (F8 _ hs).mono ?_
            rintro e v10 ⟨rfl, Bx⟩
            clear Xc0 Xc1 Xf0 Xf1 Yc0 Yc1 Yf0 Yf1 Zc0 Zc1 Zf0 Zf1 Uc0 Uc1 Uf0 Uf1 Vc0 Vc1 Vf0 Vf1 Tc0 Tc1 Tf0 Tf1 Mc0 Mc1 Mf0 Mf1
            replace X := X.kept Bx
            replace Y := Y.kept Bx
            replace Z := Z.kept Bx
            replace U := U.kept Bx
            replace V := V.kept Bx
            replace T := T.kept Bx
            replace M := M.kept Bx
            replace B := SK.below1 B Bx
            replace hs := hs.kept Bx
            clear Bx
            replace X := X.alloc (.cells #[.int .i64 (nl), .int .i64 (nh)] 25)
            replace Y := Y.alloc (.cells #[.int .i64 (nl), .int .i64 (nh)] 25)
            replace Z := Z.alloc (.cells #[.int .i64 (nl), .int .i64 (nh)] 25)
            replace U := U.alloc (.cells #[.int .i64 (nl), .int .i64 (nh)] 25)
            replace V := V.alloc (.cells #[.int .i64 (nl), .int .i64 (nh)] 25)
            replace T := T.alloc (.cells #[.int .i64 (nl), .int .i64 (nh)] 25)
            replace M := M.alloc (.cells #[.int .i64 (nl), .int .i64 (nh)] 25)
            have N := SK.Box.new v10 (nl) (nh) 25
            replace B := SK.below1 B (SK.below_new v10 (.cells #[.int .i64 (nl), .int .i64 (nh)] 25))
            replace hs := hs.alloc (.cells #[.int .i64 (nl), .int .i64 (nh)] 25)
            have ⟨Xc0, Xc1, Xf0, Xf1⟩ := X
            have ⟨Yc0, Yc1, Yf0, Yf1⟩ := Y
            have ⟨Zc0, Zc1, Zf0, Zf1⟩ := Z
            have ⟨Uc0, Uc1, Uf0, Uf1⟩ := U
            have ⟨Vc0, Vc1, Vf0, Vf1⟩ := V
            have ⟨Tc0, Tc1, Tf0, Tf1⟩ := T
            have ⟨Mc0, Mc1, Mf0, Mf1⟩ := M
            have ⟨Nc0, Nc1, Nf0, Nf1⟩ := N
            go_wp2_with fail
            refine (meet_yes (ml + nl) (mh + nh) ul uh j1 j2 _).mono ?_
            rintro e v11 ⟨rfl, Bx⟩
            clear Xc0 Xc1 Xf0 Xf1 Yc0 Yc1 Yf0 Yf1 Zc0 Zc1 Zf0 Zf1 Uc0 Uc1 Uf0 Uf1 Vc0 Vc1 Vf0 Vf1 Tc0 Tc1 Tf0 Tf1 Mc0 Mc1 Mf0 Mf1 Nc0 Nc1 Nf0 Nf1
            replace X := X.kept Bx
            replace Y := Y.kept Bx
            replace Z := Z.kept Bx
            replace U := U.kept Bx
            replace V := V.kept Bx
            replace T := T.kept Bx
            replace M := M.kept Bx
            replace N := N.kept Bx
            replace B := SK.below1 B Bx
            replace hs := hs.kept Bx
            clear Bx
            have ⟨Xc0, Xc1, Xf0, Xf1⟩ := X
            have ⟨Yc0, Yc1, Yf0, Yf1⟩ := Y
            have ⟨Zc0, Zc1, Zf0, Zf1⟩ := Z
            have ⟨Uc0, Uc1, Uf0, Uf1⟩ := U
            have ⟨Vc0, Vc1, Vf0, Vf1⟩ := V
            have ⟨Tc0, Tc1, Tf0, Tf1⟩ := T
            have ⟨Mc0, Mc1, Mf0, Mf1⟩ := M
            have ⟨Nc0, Nc1, Nf0, Nf1⟩ := N
            go_wp2
            go_ret
            exact ⟨rfl, B⟩
    · go_enter Tryd.func6, Tryd.ntmps6
      go_wp2
      go_ret
      exact ⟨rfl, Below.refl _ _⟩
  · go_enter Tryd.func6, Tryd.ntmps6
    go_wp2
    go_ret
    exact ⟨rfl, Below.refl _ _⟩

set_option maxRecDepth 100000 in
theorem lifted (os : Os) (started : os.Started) (H : Type) (enc : TypeId × Value → H) :
    ReturnsInHanded {} Tryd.checked os 6 .any (fun w args => (Rows.fnSineSumSpec.pre enc Tryd.prog Tryd.f6 [] false w args ∧ laidMetH Tryd.prog DR.laid1 w) ∧ sizedMet enc Tryd.prog Tryd.f6 (OpenSpec.ofChange Rows.fnSineSumSpec) false w args)
      (Rows.fnSineSumSpec.post enc Tryd.prog Tryd.f6 false true false false) := by
  refine returnsInHanded_of_change_and (C := Tryd.checked) (X := fun w _ => laidMetH Tryd.prog DR.laid1 w) (fun _ _ _ hh h => h.of_heap hh) own started (by kernel_rfl) Tryd.func6
    (ChangeSpec.witness_shaped (enc := enc) (C := Tryd.checked) (os := os) (X := fun w _ => laidMetH Tryd.prog DR.laid1 w) false (World.doorLaid Tryd.prog 400 os) #[.slice none 0 0, .slice none 0 0] 8 rfl (World.shaped_of_RefB (by kernel_rfl) (by kernel_rfl)) (by kernel_rfl) (by kernel_rfl) (by kernel_rfl) (DR.door_met os _)) ?_
  intro W base args ds gs before hval0 hW _ _ hL _
  have hval : ∀ (j : Nat) t v, Tryd.f6.params[j]? = some t → args[j]? = some v → Value.okWide Tryd.prog W .any base t v := hval0
  have hW' := hW
  obtain ⟨p, q, hA0, hV, rfl, hfz, hnd⟩ := hW
  have hA : DataW.TrodAll enc Tryd.prog W 0 (fun _ => true) true Tryd.f6.params.toList args.toList ds p := hA0
  rw [Tryd.params6] at hA hval
  obtain ⟨v0, vs0, d0, ds0, p0, q0, hargs0, rfl, rfl, h0, r0⟩ := trodAll_cons hA
  obtain ⟨v1, vs1, d1, ds1, p1, q1, hargs1, rfl, rfl, h1, r1⟩ := trodAll_cons r0
  obtain ⟨rfl, rfl, rfl⟩ := trodAll_nil r1
  obtain rfl : args = #[v0, v1] := by cases args; simp_all
  obtain ⟨sa, hv, hs⟩ := DR.of_laid hL
  obtain ⟨rfl, rfl⟩ := DataW.TrodVars.unique hV (DR.vars_read enc hv _)
  obtain ⟨a0, len0, cap0, rfl⟩ := okWide_slice Tryd.underlying22 (hval 0 22 v0 rfl rfl)
  have k0 := h0
  have lt0 : ∀ x ∈ p0, x.block < W.heap.size := by obtain ⟨m, hm⟩ := k0; exact DataW.trod_lt m _ _ _ hm
  obtain ⟨z0, w0⟩ : ∃ zs, IsRow .u8 W a0 len0 cap0 zs := by
    obtain ⟨fuel, hf⟩ := h0
    rcases open_ints Tryd.underlying22 Tryd.underlying5 (by kernel_rfl) hf with ⟨hcs, _⟩ | ⟨x, l, c, zs, hcs, _, hl, hm, hz, _, hcell, hwz⟩
    · simp [Value.cells] at hcs
      obtain ⟨rfl, rfl, rfl⟩ := hcs
      exact ⟨[], .inl ⟨rfl, rfl, rfl, rfl⟩⟩
    · simp [Value.cells] at hcs
      obtain ⟨rfl, rfl, rfl⟩ := hcs
      exact ⟨zs, .inr ⟨_, rfl, hl, hm, by simpa using hz, hcell, hwz⟩⟩
  obtain ⟨a1, len1, cap1, rfl⟩ := okWide_slice Tryd.underlying22 (hval 1 22 v1 rfl rfl)
  have k1 := h1
  have lt1 : ∀ x ∈ p1, x.block < W.heap.size := by obtain ⟨m, hm⟩ := k1; exact DataW.trod_lt m _ _ _ hm
  obtain ⟨z1, w1⟩ : ∃ zs, IsRow .u8 W a1 len1 cap1 zs := by
    obtain ⟨fuel, hf⟩ := h1
    rcases open_ints Tryd.underlying22 Tryd.underlying5 (by kernel_rfl) hf with ⟨hcs, _⟩ | ⟨x, l, c, zs, hcs, _, hl, hm, hz, _, hcell, hwz⟩
    · simp [Value.cells] at hcs
      obtain ⟨rfl, rfl, rfl⟩ := hcs
      exact ⟨[], .inl ⟨rfl, rfl, rfl, rfl⟩⟩
    · simp [Value.cells] at hcs
      obtain ⟨rfl, rfl, rfl⟩ := hcs
      exact ⟨zs, .inr ⟨_, rfl, hl, hm, by simpa using hz, hcell, hwz⟩⟩
  clear hA0 hval0
  refine (walk a0 len0 cap0 z0 a1 len1 cap1 z1 sa W w0 w1 hs).mono fun e W' ⟨he, bel⟩ => ?_
  subst he
  exact ⟨_, rfl, _, _, _, [], _, [.cell 0 0], hW', trodAll_mk1 (shut_bool Tryd.underlying4 _), (trodAll_cons_mk (Below.trod laidOut (by kernel_rfl) (of_decide_eq_true (by kernel_rfl)) k0 bel lt0) (trodAll_cons_mk (Below.trod laidOut (by kernel_rfl) (of_decide_eq_true (by kernel_rfl)) k1 bel lt1) trodAll_mk0)), DR.vars_read enc (DR.var_below hv bel) _, bel.frame _, fun h => by cases h⟩

theorem said : Rows.FnSineSumSaid :=
  OpenClaim.holds_of_wide 6 Tryd.f6 rfl rfl rfl rfl rfl rfl rfl ⟨rfl, rfl, rfl, rfl, rfl⟩ rfl rfl rfl rfl rfl (by kernel_rfl) Tryd.func6 (by kernel_rfl)
    (of_decide_eq_true (by kernel_rfl)) (by unfold Func.isWrapper; first | (rw [if_pos (by decide +kernel)]; kernel_rfl) | (rw [if_neg (by decide +kernel)]; exact ⟨rfl, rfl⟩))
    (fun os started H enc _ => lifted os started H enc)

theorem plain (f : FuncId) (fn : Func) (hf : Tryd.pinned.checked.prog.funcNamed "loop.example/alidade/laws.FnSineSum" = some f) (hfn : Tryd.pinned.checked.prog.funcs[f]? = some fn) :
    true = Tryd.pinned.checked.prog.looks [] ∧ ∀ (j : Nat) t, fn.params[j]? = some t → Tryd.pinned.checked.prog.wantsStandIn t = false := by
  obtain rfl : f = 6 := Option.some.inj ((show Tryd.prog.funcNamed "loop.example/alidade/laws.FnSineSum" = some 6 by kernel_rfl).symm.trans hf) |>.symm
  obtain rfl : fn = Tryd.f6 := (Option.some.inj (Tryd.func6.symm.trans hfn)).symm
  refine ⟨by kernel_rfl, fun j t ht => ?_⟩
  rw [Tryd.params6] at ht
  have hm : t ∈ [22, 22] := by
    have := Array.mem_of_getElem? ht
    simpa using this
  have hall : ([22, 22].all fun u => !Tryd.prog.wantsStandIn u) = true := by kernel_rfl
  exact (show Tryd.prog.wantsStandIn t = false by simpa using List.all_eq_true.1 hall t hm)

theorem card : Rows.FnSineSumCardSaid :=
  Claim7.holds_tied_plain_at .later [] _ _ _ _ said (fun _ h => by cases h) (by kernel_rfl) (fun _ h => by cases h) fnSineSum_row_tie rfl ⟨rfl, rfl⟩ (by kernel_rfl) rfl plain (by kernel_rfl)
end Go.Proofs.YthefibnjaoimgahDoor.fnSineSum
namespace Go.Proofs.YthefibnjaoimgahDoor
theorem fnSineSum_holds : Rows.FnSineSumCardSaid := fnSineSum.card
#print axioms fnSineSum_holds
end Go.Proofs.YthefibnjaoimgahDoor
