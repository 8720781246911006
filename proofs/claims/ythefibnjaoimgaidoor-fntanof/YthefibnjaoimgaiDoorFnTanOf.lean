/-
  For every code of bytes the law of TanOf returns true: of a drawn angle the program's TanOf is the specification's; times the cosine it has something in common with the sine, and turned about it is turned about. The package's variable errTooGreat is as the program's text lays it.
-/
import Derived.Test.YthefibnjaoimgaiDoorCards
import Derived.Test.YthefibnjaoimgaiDoorTie
import Derived.Test.YthefibnjaoimgaiDoorDoorKit
import Derived.WalkKit
import Derived.ProofKit
import Derived.OpenShut
import Derived.ShutString
import Derived.ChangeOld
import Derived.Below
import Derived.LaidMore
import Derived.Stop.Joined
import Derived.SevenTiedAt
import Derived.Test.YthefibnjaoimgaiDoorTanWalks
import Derived.Test.YthefibnjaoimgaiDoorDrawSine
import Derived.Test.YthefibnjaoimgaiDoorSineLaws
import Derived.Test.YthefibnjaoimgaiDoorSpanWalks
import Derived.Test.YthefibnjaoimgaiDoorSpanWalks2
import Derived.Test.YthefibnjaoimgaiDoorSpanWalks3
import Derived.Test.YthefibnjaoimgaiDoorKeptStep
namespace Go.Proofs.YthefibnjaoimgaiDoor.fnTanOf
open Go.ChangeShapes Go.WideShapes Go.ChangeAt Go.RowKit Go.Sort
set_option linter.unusedVariables false

theorem own : ownKnob Tryd.prog.godebug = none := by kernel_rfl
theorem laidOut : laidOutB Tryd.prog = true := by kernel_rfl
/-- What the walk is told of a slice of bytes that came in. -/
def IsRow (k : IntKind) (w : World) (a : Option Addr) (len cap : Nat) (zs : List Int) : Prop :=
  (a = none ∧ len = 0 ∧ cap = 0 ∧ zs = []) ∨
  ∃ x, a = some x ∧ len ≤ cap ∧ cap ≤ maxLen ∧ zs.length = cap ∧ (∀ i, i < zs.length → w.cell? (x.add i) = some (.int k (zs.getD i 0))) ∧ ∀ n ∈ zs, (Lit.int k n).wf = true
theorem add_none (b off i : Nat) : (⟨b, off, none⟩ : Addr).add i = ⟨b, off + i, none⟩ := by
  unfold Addr.add
  split
  · rename_i h
    subst h
    rfl
  · rfl
theorem src {w : World} {a : Option Addr} {len cap : Nat} {zs : List Int} (h : IsRow .u8 w a len cap zs) : DK.Src w a len cap := by
  rcases h with ⟨rfl, rfl, rfl, rfl⟩ | ⟨x, rfl, hl, hm, hz, hcell, hwz⟩
  · exact ⟨by omega, by omega, .inl rfl⟩
  · unfold maxLen at hm
    refine ⟨hl, by omega, ?_⟩
    by_cases h0 : len = 0
    · exact .inl h0
    · obtain ⟨b, off, spot⟩ := x
      have hc := hcell 0 (by omega)
      have hspot : spot = none := by simpa [Addr.add] using World.cell?_spot hc
      subst hspot
      refine .inr ⟨b, off, rfl, fun i hi => ?_⟩
      have hi2 : i < zs.length := by omega
      have hb := bounds_u8 (hwz (zs.getD i 0) (by simp [List.getD, hi2]))
      have hci := hcell i hi2
      rw [add_none] at hci
      exact ⟨zs.getD i 0, hb.1, hb.2, hci⟩

theorem meet_yes (sl sh tl th : Int) (h1 : sl ≤ th) (h2 : tl ≤ sh) (w : World) : Calls Tryd.prog 14 #[SK.spV sl sh, SK.spV tl th] w fun e w' => e = .returned (.bool true) ∧ Below w.heap.size w w' := by
  go_enter Tryd.func14, Tryd.ntmps14
  go_wp2
  go_ret
  exact ⟨rfl, SK.below_new2 _ _ _⟩
theorem told {a : Int} (h : SK.tanB a = true) : SK.okA a = true ∧ SM.divB (SK.sL a) (SK.sH a) (SK.cL a) (SK.cH a) = true ∧ SK.tanL a = SM.divLo (SK.sL a) (SK.sH a) (SK.cL a) (SK.cH a) ∧ SK.tanH a = SM.divHi (SK.sL a) (SK.sH a) (SK.cL a) (SK.cH a) := by
  have g := h
  unfold SK.tanB at g
  rw [Bool.and_eq_true] at g
  unfold SK.tanL SK.tanH
  rw [h]
  exact ⟨g.1, g.2, rfl, rfl⟩
theorem noTan {a : Int} (h : SK.tanB a = false) : SK.tanL a = 0 ∧ SK.tanH a = 0 := by
  unfold SK.tanL SK.tanH
  rw [h]
  exact ⟨rfl, rfl⟩
theorem mk {a : Int} (h : SK.okA a = true) (g : SM.divB (SK.sL a) (SK.sH a) (SK.cL a) (SK.cH a) = true) : SK.tanB a = true := by
  unfold SK.tanB
  rw [h, g]
  rfl
theorem back {a : Int} (h : SK.tanB a = true) : SK.tanB (-a) = true ∧ SK.tanL (-a) = -SK.tanH a ∧ SK.tanH (-a) = -SK.tanL a := by
  obtain ⟨h1, h2, h3, h4⟩ := told h
  have b := SK.okA_of h1
  have o : SK.okA (-a) = true := SK.okA_mk (by omega) (by omega)
  obtain ⟨n1, n2⟩ := SI.si_neg (2 * a)
  obtain ⟨c1, c2⟩ := SI.si_cos (2 * a)
  have e : 2 * -a = -(2 * a) := by omega
  have d : SM.divB (SK.sL (-a)) (SK.sH (-a)) (SK.cL (-a)) (SK.cH (-a)) = true := by
    simp only [SK.sL, SK.sH, SK.cL, SK.cH, e, n1, n2, c1, c2]
    exact SM.div_turn h2
  have t := mk o d
  obtain ⟨_, _, t3, t4⟩ := told t
  refine ⟨t, ?_, ?_⟩
  · rw [t3, h4]
    simp only [SK.sL, SK.sH, SK.cL, SK.cH, e, n1, n2, c1, c2]
    exact SM.divLo_neg _ _ _ _
  · rw [t4, h3]
    simp only [SK.sL, SK.sH, SK.cL, SK.cH, e, n1, n2, c1, c2]
    exact SM.divHi_neg _ _ _ _
theorem on {a : Int} (h : SK.tanB a = true) (g : SK.tanB (a + 64800000) = true) : SK.tanL (a + 64800000) = SK.tanL a ∧ SK.tanH (a + 64800000) = SK.tanH a := by
  obtain ⟨h1, h2, h3, h4⟩ := told h
  obtain ⟨_, _, t3, t4⟩ := told g
  obtain ⟨n1, n2⟩ := SI.si_half (2 * a)
  obtain ⟨c1, c2⟩ := SI.si_half (2 * a + 64800000)
  have e : 2 * (a + 64800000) = 2 * a + 129600000 := by omega
  have e2 : 2 * a + 129600000 + 64800000 = 2 * a + 64800000 + 129600000 := by omega
  rw [t3, t4, h3, h4]
  simp only [SK.sL, SK.sH, SK.cL, SK.cH, e, e2, n1, n2, c1, c2]
  exact ⟨SI.divLo_both _ _ _ _, SI.divHi_both _ _ _ _⟩
set_option maxHeartbeats 8000000 in

set_option maxHeartbeats 8000000 in
theorem walk (a0 : Option Addr) (len0 cap0 : Nat) (z0 : List Int) (sa : Addr) (w : World) (w0 : IsRow .u8 w a0 len0 cap0 z0) (hs : SW.Sn sa w) :
    Calls Tryd.prog 5 #[.slice a0 len0 cap0] w fun e w' => e = .returned (.bool true) ∧ Below w.heap.size w w' := by
  by_cases hl : (len0 : Int) ≤ 1048576
  · go_enter Tryd.func5, Tryd.ntmps5
    go_wp2_with fail
    refine (DW.drawTanOf_any _ _ _ _ (src w0)).mono ?_
    rintro e v1 ⟨x, rfl, x0, x1, Bx⟩
    have B := Bx
    replace hs := hs.kept Bx
    clear Bx
    cases hx : SK.tanB x
    · obtain ⟨z1, z2⟩ := noTan hx
      have F1 : ∀ w, Calls Tryd.prog 21 #[.int .i64 (x)] w fun e w' => e = .returned (.tuple #[SK.spV (0) (0), .bool false]) ∧ Below w.heap.size w w' := fun w => by have := SK.sTanOf_any (x) w; rw [hx, z1, z2] at this; exact this
      have F2 : ∀ w, SW.Sn sa w → Calls Tryd.prog 22 #[.int .i64 (x)] w fun e w' => e = .returned (.tuple #[SK.spV (0) (0), .bool false]) ∧ Below w.heap.size w w' := fun w h => by have := SK.tanOf_any (x) sa w h; rw [hx, z1, z2] at this; exact this
      clear z1 z2 hx
      go_wp2_with fail
      refine (F1 _).mono ?_
      rintro e v2 ⟨rfl, Bx⟩
      replace B := SK.below1 B Bx
      replace hs := hs.kept Bx
      clear Bx
      have X := SK.Box.new v2 (0) (0) 25
      replace B := SK.below1 B (SK.below_new v2 (.cells #[.int .i64 (0), .int .i64 (0)] 25))
      replace hs := hs.alloc (.cells #[.int .i64 (0), .int .i64 (0)] 25)
      have ⟨Xc0, Xc1, Xf0, Xf1⟩ := X
      go_wp2_with fail
      refine (F2 _ hs).mono ?_
      rintro e v3 ⟨rfl, Bx⟩
      clear Xc0 Xc1 Xf0 Xf1
      replace X := X.kept Bx
      replace B := SK.below1 B Bx
      replace hs := hs.kept Bx
      clear Bx
      replace X := X.alloc (.cells #[.int .i64 (0), .int .i64 (0)] 25)
      have Y := SK.Box.new v3 (0) (0) 25
      replace B := SK.below1 B (SK.below_new v3 (.cells #[.int .i64 (0), .int .i64 (0)] 25))
      replace hs := hs.alloc (.cells #[.int .i64 (0), .int .i64 (0)] 25)
      have ⟨Xc0, Xc1, Xf0, Xf1⟩ := X
      have ⟨Yc0, Yc1, Yf0, Yf1⟩ := Y
      go_wp2
      go_ret
      exact ⟨rfl, B⟩
    · obtain ⟨h1, h2, h3, h4⟩ := told hx
      obtain ⟨g1, g2, g3⟩ := back hx
      rw [h4] at g2
      rw [h3] at g3
      have F1 : ∀ w, Calls Tryd.prog 21 #[.int .i64 (x)] w fun e w' => e = .returned (.tuple #[SK.spV (SM.divLo (SK.sL x) (SK.sH x) (SK.cL x) (SK.cH x)) (SM.divHi (SK.sL x) (SK.sH x) (SK.cL x) (SK.cH x)), .bool true]) ∧ Below w.heap.size w w' := fun w => by have := SK.sTanOf_any (x) w; rw [hx, h3, h4] at this; exact this
      have F2 : ∀ w, SW.Sn sa w → Calls Tryd.prog 22 #[.int .i64 (x)] w fun e w' => e = .returned (.tuple #[SK.spV (SM.divLo (SK.sL x) (SK.sH x) (SK.cL x) (SK.cH x)) (SM.divHi (SK.sL x) (SK.sH x) (SK.cL x) (SK.cH x)), .bool true]) ∧ Below w.heap.size w w' := fun w h => by have := SK.tanOf_any (x) sa w h; rw [hx, h3, h4] at this; exact this
      have F3 : ∀ w, Calls Tryd.prog 12 #[.int .i64 (x)] w fun e w' => e = .returned (.tuple #[SK.spV (SK.sL x) (SK.sH x), .bool true]) ∧ Below w.heap.size w w' := fun w => by have := SK.sineOf_any (x) w; rw [h1] at this; exact this
      have F4 : ∀ w, Calls Tryd.prog 11 #[.int .i64 (x)] w fun e w' => e = .returned (.tuple #[SK.spV (SK.cL x) (SK.cH x), .bool true]) ∧ Below w.heap.size w w' := fun w => by have := SK.cosOf_any (x) w; rw [h1] at this; exact this
      have F6 : ∀ w, SW.Sn sa w → Calls Tryd.prog 22 #[.int .i64 (-x)] w fun e w' => e = .returned (.tuple #[SK.spV (-SM.divHi (SK.sL x) (SK.sH x) (SK.cL x) (SK.cH x)) (-SM.divLo (SK.sL x) (SK.sH x) (SK.cL x) (SK.cH x)), .bool true]) ∧ Below w.heap.size w w' := fun w h => by have := SK.tanOf_any (-x) sa w h; rw [g1, g2, g3] at this; exact this
      have ok := (SM.div_of h2).2.2.2
      have lh := (SI.si_enc (2 * x)).2.b
      have key := fun g => SI.tan_meet h2 g lh
      cases hm_ : SM.mulB (SM.divLo (SK.sL x) (SK.sH x) (SK.cL x) (SK.cH x)) (SM.divHi (SK.sL x) (SK.sH x) (SK.cL x) (SK.cH x)) (SK.cL x) (SK.cH x)
      · have F5 : ∀ w, SW.Sn sa w → Calls Tryd.prog 13 #[SK.spV (SM.divLo (SK.sL x) (SK.sH x) (SK.cL x) (SK.cH x)) (SM.divHi (SK.sL x) (SK.sH x) (SK.cL x) (SK.cH x)), SK.spV (SK.cL x) (SK.cH x)] w fun e w' => e = .returned (.tuple #[SK.spV (0) (0), .bool false]) ∧ Below w.heap.size w w' := fun w h => by have := SW.spanMul_any (SM.divLo (SK.sL x) (SK.sH x) (SK.cL x) (SK.cH x)) (SM.divHi (SK.sL x) (SK.sH x) (SK.cL x) (SK.cH x)) (SK.cL x) (SK.cH x) sa w h; rw [hm_] at this; exact this
        clear key hm_ hx h1 h2 h3 h4 g1 g2 g3 lh
        generalize SM.divLo (SK.sL x) (SK.sH x) (SK.cL x) (SK.cH x) = p at *
        generalize SM.divHi (SK.sL x) (SK.sH x) (SK.cL x) (SK.cH x) = q at *
        simp only [SK.sL, SK.sH, SK.cL, SK.cH] at *
        generalize SI.siL (2 * x + 64800000) = cl at *
        generalize SI.siH (2 * x + 64800000) = ch at *
        generalize SI.siL (2 * x) = sl at *
        generalize SI.siH (2 * x) = sh at *
        go_wp2_with fail
        refine (F1 _).mono ?_
        rintro e v2 ⟨rfl, Bx⟩
        replace B := SK.below1 B Bx
        replace hs := hs.kept Bx
        clear Bx
        have X := SK.Box.new v2 (p) (q) 25
        replace B := SK.below1 B (SK.below_new v2 (.cells #[.int .i64 (p), .int .i64 (q)] 25))
        replace hs := hs.alloc (.cells #[.int .i64 (p), .int .i64 (q)] 25)
        have ⟨Xc0, Xc1, Xf0, Xf1⟩ := X
        go_wp2_with fail
        refine (F2 _ hs).mono ?_
        rintro e v3 ⟨rfl, Bx⟩
        clear Xc0 Xc1 Xf0 Xf1
        replace X := X.kept Bx
        replace B := SK.below1 B Bx
        replace hs := hs.kept Bx
        clear Bx
        replace X := X.alloc (.cells #[.int .i64 (p), .int .i64 (q)] 25)
        have Y := SK.Box.new v3 (p) (q) 25
        replace B := SK.below1 B (SK.below_new v3 (.cells #[.int .i64 (p), .int .i64 (q)] 25))
        replace hs := hs.alloc (.cells #[.int .i64 (p), .int .i64 (q)] 25)
        have ⟨Xc0, Xc1, Xf0, Xf1⟩ := X
        have ⟨Yc0, Yc1, Yf0, Yf1⟩ := Y
        go_wp2_with fail
        refine (F3 _).mono ?_
        rintro e v4 ⟨rfl, Bx⟩
        clear Xc0 Xc1 Xf0 Xf1 Yc0 Yc1 Yf0 Yf1
        replace X := X.kept Bx
        replace Y := Y.kept Bx
        replace B := SK.below1 B Bx
        replace hs := hs.kept Bx
        clear Bx
        replace X := X.alloc (.cells #[.int .i64 (sl), .int .i64 (sh)] 25)
        replace Y := Y.alloc (.cells #[.int .i64 (sl), .int .i64 (sh)] 25)
        have S := SK.Box.new v4 (sl) (sh) 25
        replace B := SK.below1 B (SK.below_new v4 (.cells #[.int .i64 (sl), .int .i64 (sh)] 25))
        replace hs := hs.alloc (.cells #[.int .i64 (sl), .int .i64 (sh)] 25)
        have ⟨Xc0, Xc1, Xf0, Xf1⟩ := X
        have ⟨Yc0, Yc1, Yf0, Yf1⟩ := Y
        have ⟨Sc0, Sc1, Sf0, Sf1⟩ := S
        go_wp2_with fail
        refine (F4 _).mono ?_
        rintro e v5 ⟨rfl, Bx⟩
        clear Xc0 Xc1 Xf0 Xf1 Yc0 Yc1 Yf0 Yf1 Sc0 Sc1 Sf0 Sf1
        replace X := X.kept Bx
        replace Y := Y.kept Bx
        replace S := S.kept Bx
        replace B := SK.below1 B Bx
        replace hs := hs.kept Bx
        clear Bx
        replace X := X.alloc (.cells #[.int .i64 (cl), .int .i64 (ch)] 25)
        replace Y := Y.alloc (.cells #[.int .i64 (cl), .int .i64 (ch)] 25)
        replace S := S.alloc (.cells #[.int .i64 (cl), .int .i64 (ch)] 25)
        have C := SK.Box.new v5 (cl) (ch) 25
        replace B := SK.below1 B (SK.below_new v5 (.cells #[.int .i64 (cl), .int .i64 (ch)] 25))
        replace hs := hs.alloc (.cells #[.int .i64 (cl), .int .i64 (ch)] 25)
        have ⟨Xc0, Xc1, Xf0, Xf1⟩ := X
        have ⟨Yc0, Yc1, Yf0, Yf1⟩ := Y
        have ⟨Sc0, Sc1, Sf0, Sf1⟩ := S
        have ⟨Cc0, Cc1, Cf0, Cf1⟩ := C
        go_wp2_with fail
        refine (F5 _ hs).mono ?_
        rintro e v6 ⟨rfl, Bx⟩
        clear Xc0 Xc1 Xf0 Xf1 Yc0 Yc1 Yf0 Yf1 Sc0 Sc1 Sf0 Sf1 Cc0 Cc1 Cf0 Cf1
        replace X := X.kept Bx
        replace Y := Y.kept Bx
        replace S := S.kept Bx
        replace C := C.kept Bx
        replace B := SK.below1 B Bx
        replace hs := hs.kept Bx
        clear Bx
        replace X := X.alloc (.cells #[.int .i64 (0), .int .i64 (0)] 25)
        replace Y := Y.alloc (.cells #[.int .i64 (0), .int .i64 (0)] 25)
        replace S := S.alloc (.cells #[.int .i64 (0), .int .i64 (0)] 25)
        replace C := C.alloc (.cells #[.int .i64 (0), .int .i64 (0)] 25)
        have M := SK.Box.new v6 (0) (0) 25
        replace B := SK.below1 B (SK.below_new v6 (.cells #[.int .i64 (0), .int .i64 (0)] 25))
        replace hs := hs.alloc (.cells #[.int .i64 (0), .int .i64 (0)] 25)
        have ⟨Xc0, Xc1, Xf0, Xf1⟩ := X
        have ⟨Yc0, Yc1, Yf0, Yf1⟩ := Y
        have ⟨Sc0, Sc1, Sf0, Sf1⟩ := S
        have ⟨Cc0, Cc1, Cf0, Cf1⟩ := C
        have ⟨Mc0, Mc1, Mf0, Mf1⟩ := M
        go_wp2_with fail
        refine (F6 _ hs).mono ?_
        rintro e v7 ⟨rfl, Bx⟩
        clear Xc0 Xc1 Xf0 Xf1 Yc0 Yc1 Yf0 Yf1 Sc0 Sc1 Sf0 Sf1 Cc0 Cc1 Cf0 Cf1 Mc0 Mc1 Mf0 Mf1
        replace X := X.kept Bx
        replace Y := Y.kept Bx
        replace S := S.kept Bx
        replace C := C.kept Bx
        replace M := M.kept Bx
        replace B := SK.below1 B Bx
        replace hs := hs.kept Bx
        clear Bx
        replace X := X.alloc (.cells #[.int .i64 (-q), .int .i64 (-p)] 25)
        replace Y := Y.alloc (.cells #[.int .i64 (-q), .int .i64 (-p)] 25)
        replace S := S.alloc (.cells #[.int .i64 (-q), .int .i64 (-p)] 25)
        replace C := C.alloc (.cells #[.int .i64 (-q), .int .i64 (-p)] 25)
        replace M := M.alloc (.cells #[.int .i64 (-q), .int .i64 (-p)] 25)
        have T := SK.Box.new v7 (-q) (-p) 25
        replace B := SK.below1 B (SK.below_new v7 (.cells #[.int .i64 (-q), .int .i64 (-p)] 25))
        replace hs := hs.alloc (.cells #[.int .i64 (-q), .int .i64 (-p)] 25)
        have ⟨Xc0, Xc1, Xf0, Xf1⟩ := X
        have ⟨Yc0, Yc1, Yf0, Yf1⟩ := Y
        have ⟨Sc0, Sc1, Sf0, Sf1⟩ := S
        have ⟨Cc0, Cc1, Cf0, Cf1⟩ := C
        have ⟨Mc0, Mc1, Mf0, Mf1⟩ := M
        have ⟨Tc0, Tc1, Tf0, Tf1⟩ := T
        go_wp2_with fail
        clear Xc0 Xc1 Xf0 Xf1 Yc0 Yc1 Yf0 Yf1 Sc0 Sc1 Sf0 Sf1 Cc0 Cc1 Cf0 Cf1 Mc0 Mc1 Mf0 Mf1 Tc0 Tc1 Tf0 Tf1
        generalize (v7.alloc (.cells #[.int .i64 (-q), .int .i64 (-p)] 25)) = wz at *
        have Xk0 := cell_regrown X.c0
        have Xk1 := cell_regrown X.c1
        have Yk0 := cell_regrown Y.c0
        have Yk1 := cell_regrown Y.c1
        have Sk0 := cell_regrown S.c0
        have Sk1 := cell_regrown S.c1
        have Ck0 := cell_regrown C.c0
        have Ck1 := cell_regrown C.c1
        have Mk0 := cell_regrown M.c0
        have Mk1 := cell_regrown M.c1
        have Tk0 := cell_regrown T.c0
        have Tk1 := cell_regrown T.c1
        have c2 : ∀ d os, Calls Tryd.prog 23 #[SK.spV p q] (grow (redrawn wz d) os) fun e w'' => e = .returned (SK.spV (-q) (-p)) ∧ ∃ p : Regrown, w'' = grow (redrawn wz p.d) p.os := fun d os => Calls.regrown_of (by have := SW.spanNeg_any p q sa _ (hs.kept (below_regrown wz d os)); rw [ok] at this; exact this)
        refine KS.region (by kernel_rfl) (by kernel_rfl) ?_
        repeat (refine KS.step (fun K hK => ?_); go_simp; refine hK _ ?_; clear hK K)
        refine KS.step (fun K hK => ?_)
        go_simp
        apply Exists.intro
        refine ⟨fun _ => ?_, hK _ ?_⟩
        exact c2 _ _
        clear hK K
        repeat (refine KS.step (fun K hK => ?_); go_simp; refine hK _ ?_; clear hK K)
        refine KS.nil ?_
        rintro _ ⟨p, rfl⟩
        go_wp2
        go_ret
        exact ⟨rfl, SK.below1 B (below_regrown _ _ _)⟩
      · have F5 : ∀ w, SW.Sn sa w → Calls Tryd.prog 13 #[SK.spV (SM.divLo (SK.sL x) (SK.sH x) (SK.cL x) (SK.cH x)) (SM.divHi (SK.sL x) (SK.sH x) (SK.cL x) (SK.cH x)), SK.spV (SK.cL x) (SK.cH x)] w fun e w' => e = .returned (.tuple #[SK.spV (SM.mulLo (SM.divLo (SK.sL x) (SK.sH x) (SK.cL x) (SK.cH x)) (SM.divHi (SK.sL x) (SK.sH x) (SK.cL x) (SK.cH x)) (SK.cL x) (SK.cH x)) (SM.mulHi (SM.divLo (SK.sL x) (SK.sH x) (SK.cL x) (SK.cH x)) (SM.divHi (SK.sL x) (SK.sH x) (SK.cL x) (SK.cH x)) (SK.cL x) (SK.cH x)), .bool true]) ∧ Below w.heap.size w w' := fun w h => by have := SW.spanMul_any (SM.divLo (SK.sL x) (SK.sH x) (SK.cL x) (SK.cH x)) (SM.divHi (SK.sL x) (SK.sH x) (SK.cL x) (SK.cH x)) (SK.cL x) (SK.cH x) sa w h; rw [hm_] at this; exact this
        obtain ⟨k1, k2⟩ := key hm_
        clear key hm_ hx h1 h2 h3 h4 g1 g2 g3 lh
        generalize SM.mulLo (SM.divLo (SK.sL x) (SK.sH x) (SK.cL x) (SK.cH x)) (SM.divHi (SK.sL x) (SK.sH x) (SK.cL x) (SK.cH x)) (SK.cL x) (SK.cH x) = ml at *
        generalize SM.mulHi (SM.divLo (SK.sL x) (SK.sH x) (SK.cL x) (SK.cH x)) (SM.divHi (SK.sL x) (SK.sH x) (SK.cL x) (SK.cH x)) (SK.cL x) (SK.cH x) = mh at *
        generalize SM.divLo (SK.sL x) (SK.sH x) (SK.cL x) (SK.cH x) = p at *
        generalize SM.divHi (SK.sL x) (SK.sH x) (SK.cL x) (SK.cH x) = q at *
        simp only [SK.sL, SK.sH, SK.cL, SK.cH] at *
        generalize SI.siL (2 * x + 64800000) = cl at *
        generalize SI.siH (2 * x + 64800000) = ch at *
        generalize SI.siL (2 * x) = sl at *
        generalize SI.siH (2 * x) = sh at *
        go_wp2_with fail
        refine (F1 _).mono ?_
        rintro e v2 ⟨rfl, Bx⟩
        replace B := SK.below1 B Bx
        replace hs := hs.kept Bx
        clear Bx
        have X := SK.Box.new v2 (p) (q) 25
        replace B := SK.below1 B (SK.below_new v2 (.cells #[.int .i64 (p), .int .i64 (q)] 25))
        replace hs := hs.alloc (.cells #[.int .i64 (p), .int .i64 (q)] 25)
        have ⟨Xc0, Xc1, Xf0, Xf1⟩ := X
        go_wp2_with fail
        refine (F2 _ hs).mono ?_
        rintro e v3 ⟨rfl, Bx⟩
        clear Xc0 Xc1 Xf0 Xf1
        replace X := X.kept Bx
        replace B := SK.below1 B Bx
        replace hs := hs.kept Bx
        clear Bx
        replace X := X.alloc (.cells #[.int .i64 (p), .int .i64 (q)] 25)
        have Y := SK.Box.new v3 (p) (q) 25
        replace B := SK.below1 B (SK.below_new v3 (.cells #[.int .i64 (p), .int .i64 (q)] 25))
        replace hs := hs.alloc (.cells #[.int .i64 (p), .int .i64 (q)] 25)
        have ⟨Xc0, Xc1, Xf0, Xf1⟩ := X
        have ⟨Yc0, Yc1, Yf0, Yf1⟩ := Y
        go_wp2_with fail
        refine (F3 _).mono ?_
        rintro e v4 ⟨rfl, Bx⟩
        clear Xc0 Xc1 Xf0 Xf1 Yc0 Yc1 Yf0 Yf1
        replace X := X.kept Bx
        replace Y := Y.kept Bx
        replace B := SK.below1 B Bx
        replace hs := hs.kept Bx
        clear Bx
        replace X := X.alloc (.cells #[.int .i64 (sl), .int .i64 (sh)] 25)
        replace Y := Y.alloc (.cells #[.int .i64 (sl), .int .i64 (sh)] 25)
        have S := SK.Box.new v4 (sl) (sh) 25
        replace B := SK.below1 B (SK.below_new v4 (.cells #[.int .i64 (sl), .int .i64 (sh)] 25))
        replace hs := hs.alloc (.cells #[.int .i64 (sl), .int .i64 (sh)] 25)
        have ⟨Xc0, Xc1, Xf0, Xf1⟩ := X
        have ⟨Yc0, Yc1, Yf0, Yf1⟩ := Y
        have ⟨Sc0, Sc1, Sf0, Sf1⟩ := S
        go_wp2_with fail
        refine (F4 _).mono ?_
        rintro e v5 ⟨rfl, Bx⟩
        clear Xc0 Xc1 Xf0 Xf1 Yc0 Yc1 Yf0 Yf1 Sc0 Sc1 Sf0 Sf1
        replace X := X.kept Bx
        replace Y := Y.kept Bx
        replace S := S.kept Bx
        replace B := SK.below1 B Bx
        replace hs := hs.kept Bx
        clear Bx
        replace X := X.alloc (.cells #[.int .i64 (cl), .int .i64 (ch)] 25)
        replace Y := Y.alloc (.cells #[.int .i64 (cl), .int .i64 (ch)] 25)
        replace S := S.alloc (.cells #[.int .i64 (cl), .int .i64 (ch)] 25)
        have C := SK.Box.new v5 (cl) (ch) 25
        replace B := SK.below1 B (SK.below_new v5 (.cells #[.int .i64 (cl), .int .i64 (ch)] 25))
        replace hs := hs.alloc (.cells #[.int .i64 (cl), .int .i64 (ch)] 25)
        have ⟨Xc0, Xc1, Xf0, Xf1⟩ := X
        have ⟨Yc0, Yc1, Yf0, Yf1⟩ := Y
        have ⟨Sc0, Sc1, Sf0, Sf1⟩ := S
        have ⟨Cc0, Cc1, Cf0, Cf1⟩ := C
        go_wp2_with fail
        refine (F5 _ hs).mono ?_
        rintro e v6 ⟨rfl, Bx⟩
        clear Xc0 Xc1 Xf0 Xf1 Yc0 Yc1 Yf0 Yf1 Sc0 Sc1 Sf0 Sf1 Cc0 Cc1 Cf0 Cf1
        replace X := X.kept Bx
        replace Y := Y.kept Bx
        replace S := S.kept Bx
        replace C := C.kept Bx
        replace B := SK.below1 B Bx
        replace hs := hs.kept Bx
        clear Bx
        replace X := X.alloc (.cells #[.int .i64 (ml), .int .i64 (mh)] 25)
        replace Y := Y.alloc (.cells #[.int .i64 (ml), .int .i64 (mh)] 25)
        replace S := S.alloc (.cells #[.int .i64 (ml), .int .i64 (mh)] 25)
        replace C := C.alloc (.cells #[.int .i64 (ml), .int .i64 (mh)] 25)
        have M := SK.Box.new v6 (ml) (mh) 25
        replace B := SK.below1 B (SK.below_new v6 (.cells #[.int .i64 (ml), .int .i64 (mh)] 25))
        replace hs := hs.alloc (.cells #[.int .i64 (ml), .int .i64 (mh)] 25)
        have ⟨Xc0, Xc1, Xf0, Xf1⟩ := X
        have ⟨Yc0, Yc1, Yf0, Yf1⟩ := Y
        have ⟨Sc0, Sc1, Sf0, Sf1⟩ := S
        have ⟨Cc0, Cc1, Cf0, Cf1⟩ := C
        have ⟨Mc0, Mc1, Mf0, Mf1⟩ := M
        go_wp2_with fail
        refine (F6 _ hs).mono ?_
        rintro e v7 ⟨rfl, Bx⟩
        clear Xc0 Xc1 Xf0 Xf1 Yc0 Yc1 Yf0 Yf1 Sc0 Sc1 Sf0 Sf1 Cc0 Cc1 Cf0 Cf1 Mc0 Mc1 Mf0 Mf1
        replace X := X.kept Bx
        replace Y := Y.kept Bx
        replace S := S.kept Bx
        replace C := C.kept Bx
        replace M := M.kept Bx
        replace B := SK.below1 B Bx
        replace hs := hs.kept Bx
        clear Bx
        replace X := X.alloc (.cells #[.int .i64 (-q), .int .i64 (-p)] 25)
        replace Y := Y.alloc (.cells #[.int .i64 (-q), .int .i64 (-p)] 25)
        replace S := S.alloc (.cells #[.int .i64 (-q), .int .i64 (-p)] 25)
        replace C := C.alloc (.cells #[.int .i64 (-q), .int .i64 (-p)] 25)
        replace M := M.alloc (.cells #[.int .i64 (-q), .int .i64 (-p)] 25)
        have T := SK.Box.new v7 (-q) (-p) 25
        replace B := SK.below1 B (SK.below_new v7 (.cells #[.int .i64 (-q), .int .i64 (-p)] 25))
        replace hs := hs.alloc (.cells #[.int .i64 (-q), .int .i64 (-p)] 25)
        have ⟨Xc0, Xc1, Xf0, Xf1⟩ := X
        have ⟨Yc0, Yc1, Yf0, Yf1⟩ := Y
        have ⟨Sc0, Sc1, Sf0, Sf1⟩ := S
        have ⟨Cc0, Cc1, Cf0, Cf1⟩ := C
        have ⟨Mc0, Mc1, Mf0, Mf1⟩ := M
        have ⟨Tc0, Tc1, Tf0, Tf1⟩ := T
        go_wp2_with fail
        clear Xc0 Xc1 Xf0 Xf1 Yc0 Yc1 Yf0 Yf1 Sc0 Sc1 Sf0 Sf1 Cc0 Cc1 Cf0 Cf1 Mc0 Mc1 Mf0 Mf1 Tc0 Tc1 Tf0 Tf1
        generalize (v7.alloc (.cells #[.int .i64 (-q), .int .i64 (-p)] 25)) = wz at *
        have Xk0 := cell_regrown X.c0
        have Xk1 := cell_regrown X.c1
        have Yk0 := cell_regrown Y.c0
        have Yk1 := cell_regrown Y.c1
        have Sk0 := cell_regrown S.c0
        have Sk1 := cell_regrown S.c1
        have Ck0 := cell_regrown C.c0
        have Ck1 := cell_regrown C.c1
        have Mk0 := cell_regrown M.c0
        have Mk1 := cell_regrown M.c1
        have Tk0 := cell_regrown T.c0
        have Tk1 := cell_regrown T.c1
        have c1 : ∀ d os, Calls Tryd.prog 14 #[SK.spV ml mh, SK.spV sl sh] (grow (redrawn wz d) os) fun e w'' => e = .returned (.bool true) ∧ ∃ p : Regrown, w'' = grow (redrawn wz p.d) p.os := fun d os => Calls.regrown_of (meet_yes ml mh sl sh k1 k2 _)
        have c2 : ∀ d os, Calls Tryd.prog 23 #[SK.spV p q] (grow (redrawn wz d) os) fun e w'' => e = .returned (SK.spV (-q) (-p)) ∧ ∃ p : Regrown, w'' = grow (redrawn wz p.d) p.os := fun d os => Calls.regrown_of (by have := SW.spanNeg_any p q sa _ (hs.kept (below_regrown wz d os)); rw [ok] at this; exact this)
        refine KS.region (by kernel_rfl) (by kernel_rfl) ?_
        repeat (refine KS.step (fun K hK => ?_); go_simp; refine hK _ ?_; clear hK K)
        refine KS.step (fun K hK => ?_)
        go_simp
        apply Exists.intro
        refine ⟨fun _ => ?_, hK _ ?_⟩
        exact c1 _ _
        clear hK K
        repeat (refine KS.step (fun K hK => ?_); go_simp; refine hK _ ?_; clear hK K)
        refine KS.step (fun K hK => ?_)
        go_simp
        apply Exists.intro
        refine ⟨fun _ => ?_, hK _ ?_⟩
        exact c2 _ _
        clear hK K
        repeat (refine KS.step (fun K hK => ?_); go_simp; refine hK _ ?_; clear hK K)
        refine KS.nil ?_
        rintro _ ⟨p, rfl⟩
        go_wp2
        go_ret
        exact ⟨rfl, SK.below1 B (below_regrown _ _ _)⟩
  · go_enter Tryd.func5, Tryd.ntmps5
    go_wp2
    go_ret
    exact ⟨rfl, Below.refl _ _⟩

set_option maxRecDepth 100000 in
theorem lifted (os : Os) (started : os.Started) (H : Type) (enc : TypeId × Value → H) :
    ReturnsInHanded {} Tryd.checked os 5 .any (fun w args => (Rows.fnTanOfSpec.pre enc Tryd.prog Tryd.f5 [] false w args ∧ laidMetH Tryd.prog DR.laid1 w) ∧ sizedMet enc Tryd.prog Tryd.f5 (OpenSpec.ofChange Rows.fnTanOfSpec) false w args)
      (Rows.fnTanOfSpec.post enc Tryd.prog Tryd.f5 false true false false) := by
  refine returnsInHanded_of_change_and (C := Tryd.checked) (X := fun w _ => laidMetH Tryd.prog DR.laid1 w) (fun _ _ _ hh h => h.of_heap hh) own started (by kernel_rfl) Tryd.func5
    (ChangeSpec.witness_shaped (enc := enc) (C := Tryd.checked) (os := os) (X := fun w _ => laidMetH Tryd.prog DR.laid1 w) false (World.doorLaid Tryd.prog 400 os) #[.slice none 0 0] 8 rfl (World.shaped_of_RefB (by kernel_rfl) (by kernel_rfl)) (by kernel_rfl) (by kernel_rfl) (by kernel_rfl) (DR.door_met os _)) ?_
  intro W base args ds gs before hval0 hW _ _ hL _
  have hval : ∀ (j : Nat) t v, Tryd.f5.params[j]? = some t → args[j]? = some v → Value.okWide Tryd.prog W .any base t v := hval0
  have hW' := hW
  obtain ⟨p, q, hA0, hV, rfl, hfz, hnd⟩ := hW
  have hA : DataW.TrodAll enc Tryd.prog W 0 (fun _ => true) true Tryd.f5.params.toList args.toList ds p := hA0
  rw [Tryd.params5] at hA hval
  obtain ⟨v0, vs0, d0, ds0, p0, q0, hargs0, rfl, rfl, h0, r0⟩ := trodAll_cons hA
  obtain ⟨rfl, rfl, rfl⟩ := trodAll_nil r0
  obtain rfl : args = #[v0] := by cases args; simp_all
  obtain ⟨sa, hv, hs⟩ := DR.of_laid hL
  obtain ⟨rfl, rfl⟩ := DataW.TrodVars.unique hV (DR.vars_read enc hv _)
  obtain ⟨a0, len0, cap0, rfl⟩ := okWide_slice Tryd.underlying22 (hval 0 22 v0 rfl rfl)
  have k0 := h0
  have lt0 : ∀ x ∈ p0, x.block < W.heap.size := by obtain ⟨m, hm⟩ := k0; exact DataW.trod_lt m _ _ _ hm
  obtain ⟨z0, w0⟩ : ∃ zs, IsRow .u8 W a0 len0 cap0 zs := by
    obtain ⟨fuel, hf⟩ := h0
    rcases open_ints Tryd.underlying22 Tryd.underlying5 (by kernel_rfl) hf with ⟨hcs, _⟩ | ⟨x, l, c, zs, hcs, _, hl, hm, hz, _, hcell, hwz⟩
    · simp [Value.cells] at hcs
      obtain ⟨rfl, rfl, rfl⟩ := hcs
      exact ⟨[], .inl ⟨rfl, rfl, rfl, rfl⟩⟩
    · simp [Value.cells] at hcs
      obtain ⟨rfl, rfl, rfl⟩ := hcs
      exact ⟨zs, .inr ⟨_, rfl, hl, hm, by simpa using hz, hcell, hwz⟩⟩
  clear hA0 hval0
  refine (walk a0 len0 cap0 z0 sa W w0 hs).mono fun e W' ⟨he, bel⟩ => ?_
  subst he
  exact ⟨_, rfl, _, _, _, [], _, [.cell 0 0], hW', trodAll_mk1 (shut_bool Tryd.underlying4 _), (trodAll_cons_mk (Below.trod laidOut (by kernel_rfl) (of_decide_eq_true (by kernel_rfl)) k0 bel lt0) trodAll_mk0), DR.vars_read enc (DR.var_below hv bel) _, bel.frame _, fun h => by cases h⟩

theorem said : Rows.FnTanOfSaid :=
  OpenClaim.holds_of_wide 5 Tryd.f5 rfl rfl rfl rfl rfl rfl rfl ⟨rfl, rfl, rfl, rfl, rfl⟩ rfl rfl rfl rfl rfl (by kernel_rfl) Tryd.func5 (by kernel_rfl)
    (of_decide_eq_true (by kernel_rfl)) (by unfold Func.isWrapper; first | (rw [if_pos (by decide +kernel)]; kernel_rfl) | (rw [if_neg (by decide +kernel)]; exact ⟨rfl, rfl⟩))
    (fun os started H enc _ => lifted os started H enc)

theorem plain (f : FuncId) (fn : Func) (hf : Tryd.pinned.checked.prog.funcNamed "loop.example/alidade/laws.FnTanOf" = some f) (hfn : Tryd.pinned.checked.prog.funcs[f]? = some fn) :
    true = Tryd.pinned.checked.prog.looks [] ∧ ∀ (j : Nat) t, fn.params[j]? = some t → Tryd.pinned.checked.prog.wantsStandIn t = false := by
  obtain rfl : f = 5 := Option.some.inj ((show Tryd.prog.funcNamed "loop.example/alidade/laws.FnTanOf" = some 5 by kernel_rfl).symm.trans hf) |>.symm
  obtain rfl : fn = Tryd.f5 := (Option.some.inj (Tryd.func5.symm.trans hfn)).symm
  refine ⟨by kernel_rfl, fun j t ht => ?_⟩
  rw [Tryd.params5] at ht
  have hm : t ∈ [22] := by
    have := Array.mem_of_getElem? ht
    simpa using this
  have hall : ([22].all fun u => !Tryd.prog.wantsStandIn u) = true := by kernel_rfl
  exact (show Tryd.prog.wantsStandIn t = false by simpa using List.all_eq_true.1 hall t hm)

theorem card : Rows.FnTanOfCardSaid :=
  Claim7.holds_tied_plain_at .later [] _ _ _ _ said (fun _ h => by cases h) (by kernel_rfl) (fun _ h => by cases h) fnTanOf_row_tie rfl ⟨rfl, rfl⟩ (by kernel_rfl) rfl plain (by kernel_rfl)
end Go.Proofs.YthefibnjaoimgaiDoor.fnTanOf
namespace Go.Proofs.YthefibnjaoimgaiDoor
theorem fnTanOf_holds : Rows.FnTanOfCardSaid := fnTanOf.card
#print axioms fnTanOf_holds
end Go.Proofs.YthefibnjaoimgaiDoor
