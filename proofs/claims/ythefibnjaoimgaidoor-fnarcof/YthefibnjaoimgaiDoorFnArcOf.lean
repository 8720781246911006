/-
  For every code of bytes the law of ArcOf returns true: of a drawn angle the program's ArcOf is the specification's; not below 0 it is not below the sine, nor above the tangent, two parts wide at most, and turned about turned about. The package's variable errTooGreat is as the program's text lays it.
-/
import Derived.Test.YthefibnjaoimgaiDoorCards
import Derived.Test.YthefibnjaoimgaiDoorTie
import Derived.Test.YthefibnjaoimgaiDoorDoorKit
import Derived.WalkKit
import Derived.ProofKit
import Derived.OpenShut
import Derived.ShutString
import Derived.ChangeOld
import Derived.Below
import Derived.LaidMore
import Derived.Stop.Joined
import Derived.SevenTiedAt
import Derived.Test.YthefibnjaoimgaiDoorTanWalks
import Derived.Test.YthefibnjaoimgaiDoorDrawSine
import Derived.Test.YthefibnjaoimgaiDoorSineLaws
import Derived.Test.YthefibnjaoimgaiDoorSpanWalks
import Derived.Test.YthefibnjaoimgaiDoorSpanWalks2
import Derived.Test.YthefibnjaoimgaiDoorSpanWalks3
import Derived.Test.YthefibnjaoimgaiDoorKeptStep
import Derived.Test.YthefibnjaoimgaiDoorSineTan
namespace Go.Proofs.YthefibnjaoimgaiDoor.fnArcOf
open Go.ChangeShapes Go.WideShapes Go.ChangeAt Go.RowKit Go.Sort
set_option linter.unusedVariables false

theorem own : ownKnob Tryd.prog.godebug = none := by kernel_rfl
theorem laidOut : laidOutB Tryd.prog = true := by kernel_rfl
/-- What the walk is told of a slice of bytes that came in. -/
def IsRow (k : IntKind) (w : World) (a : Option Addr) (len cap : Nat) (zs : List Int) : Prop :=
  (a = none ∧ len = 0 ∧ cap = 0 ∧ zs = []) ∨
  ∃ x, a = some x ∧ len ≤ cap ∧ cap ≤ maxLen ∧ zs.length = cap ∧ (∀ i, i < zs.length → w.cell? (x.add i) = some (.int k (zs.getD i 0))) ∧ ∀ n ∈ zs, (Lit.int k n).wf = true
theorem add_none (b off i : Nat) : (⟨b, off, none⟩ : Addr).add i = ⟨b, off + i, none⟩ := by
  unfold Addr.add
  split
  · rename_i h
    subst h
    rfl
  · rfl
theorem src {w : World} {a : Option Addr} {len cap : Nat} {zs : List Int} (h : IsRow .u8 w a len cap zs) : DK.Src w a len cap := by
  rcases h with ⟨rfl, rfl, rfl, rfl⟩ | ⟨x, rfl, hl, hm, hz, hcell, hwz⟩
  · exact ⟨by omega, by omega, .inl rfl⟩
  · unfold maxLen at hm
    refine ⟨hl, by omega, ?_⟩
    by_cases h0 : len = 0
    · exact .inl h0
    · obtain ⟨b, off, spot⟩ := x
      have hc := hcell 0 (by omega)
      have hspot : spot = none := by simpa [Addr.add] using World.cell?_spot hc
      subst hspot
      refine .inr ⟨b, off, rfl, fun i hi => ?_⟩
      have hi2 : i < zs.length := by omega
      have hb := bounds_u8 (hwz (zs.getD i 0) (by simp [List.getD, hi2]))
      have hci := hcell i hi2
      rw [add_none] at hci
      exact ⟨zs.getD i 0, hb.1, hb.2, hci⟩

theorem told {a : Int} (h : SK.tanB a = true) : SK.okA a = true ∧ SM.divB (SK.sL a) (SK.sH a) (SK.cL a) (SK.cH a) = true ∧ SK.tanL a = SM.divLo (SK.sL a) (SK.sH a) (SK.cL a) (SK.cH a) ∧ SK.tanH a = SM.divHi (SK.sL a) (SK.sH a) (SK.cL a) (SK.cH a) := by
  have g := h
  unfold SK.tanB at g
  rw [Bool.and_eq_true] at g
  unfold SK.tanL SK.tanH
  rw [h]
  exact ⟨g.1, g.2, rfl, rfl⟩
theorem noTan {a : Int} (h : SK.tanB a = false) : SK.tanL a = 0 ∧ SK.tanH a = 0 := by
  unfold SK.tanL SK.tanH
  rw [h]
  exact ⟨rfl, rfl⟩
theorem mk {a : Int} (h : SK.okA a = true) (g : SM.divB (SK.sL a) (SK.sH a) (SK.cL a) (SK.cH a) = true) : SK.tanB a = true := by
  unfold SK.tanB
  rw [h, g]
  rfl
theorem back {a : Int} (h : SK.tanB a = true) : SK.tanB (-a) = true ∧ SK.tanL (-a) = -SK.tanH a ∧ SK.tanH (-a) = -SK.tanL a := by
  obtain ⟨h1, h2, h3, h4⟩ := told h
  have b := SK.okA_of h1
  have o : SK.okA (-a) = true := SK.okA_mk (by omega) (by omega)
  obtain ⟨n1, n2⟩ := SI.si_neg (2 * a)
  obtain ⟨c1, c2⟩ := SI.si_cos (2 * a)
  have e : 2 * -a = -(2 * a) := by omega
  have d : SM.divB (SK.sL (-a)) (SK.sH (-a)) (SK.cL (-a)) (SK.cH (-a)) = true := by
    simp only [SK.sL, SK.sH, SK.cL, SK.cH, e, n1, n2, c1, c2]
    exact SM.div_turn h2
  have t := mk o d
  obtain ⟨_, _, t3, t4⟩ := told t
  refine ⟨t, ?_, ?_⟩
  · rw [t3, h4]
    simp only [SK.sL, SK.sH, SK.cL, SK.cH, e, n1, n2, c1, c2]
    exact SM.divLo_neg _ _ _ _
  · rw [t4, h3]
    simp only [SK.sL, SK.sH, SK.cL, SK.cH, e, n1, n2, c1, c2]
    exact SM.divHi_neg _ _ _ _
theorem on {a : Int} (h : SK.tanB a = true) (g : SK.tanB (a + 64800000) = true) : SK.tanL (a + 64800000) = SK.tanL a ∧ SK.tanH (a + 64800000) = SK.tanH a := by
  obtain ⟨h1, h2, h3, h4⟩ := told h
  obtain ⟨_, _, t3, t4⟩ := told g
  obtain ⟨n1, n2⟩ := SI.si_half (2 * a)
  obtain ⟨c1, c2⟩ := SI.si_half (2 * a + 64800000)
  have e : 2 * (a + 64800000) = 2 * a + 129600000 := by omega
  have e2 : 2 * a + 129600000 + 64800000 = 2 * a + 64800000 + 129600000 := by omega
  rw [t3, t4, h3, h4]
  simp only [SK.sL, SK.sH, SK.cL, SK.cH, e, e2, n1, n2, c1, c2]
  exact ⟨SI.divLo_both _ _ _ _, SI.divHi_both _ _ _ _⟩
theorem arc_facts {x : Int} (h : SK.okE x = true) (hn : ¬ x < 0) : SI.siL (2 * x) ≤ SK.arH x ∧ SK.arL x ≤ SM.divHi (SK.sL x) (SK.sH x) (SK.cL x) (SK.cH x) ∧ -800000000 ≤ SK.arL x ∧ SK.arH x ≤ 800000000 ∧ SK.arL (-x) = -SK.arH x ∧ SK.arH (-x) = -SK.arL x ∧ SK.arH x - SK.arL x ≤ 2 ∧ SM.okS (SK.arL x) (SK.arH x) = true := by
  have b := SK.okE_of h
  have e1 : SK.arL x = SI.aL (2 * x) := if_neg hn
  have e2 : SK.arH x = SI.aH (2 * x) := if_neg hn
  have d := SI.arc_bd (h := 2 * x) (by omega) (by omega)
  have s := SI.sine_arc (h := 2 * x) (by omega) (by omega)
  have t := SI.arc_tan (h := 2 * x) (by omega) (by omega)
  have w2 : SI.aH (2 * x) - SI.aL (2 * x) ≤ 2 := by unfold SI.aH SI.aL NM.up NM.down; omega
  rw [e1, e2]
  refine ⟨s, t, by omega, by omega, ?_, ?_, w2, SM.okS_mk (by omega)⟩
  · unfold SK.arL
    by_cases z : x = 0
    · subst z
      rfl
    · rw [if_pos (by omega)]
      have : -2 * -x = 2 * x := by omega
      rw [this]
  · unfold SK.arH
    by_cases z : x = 0
    · subst z
      rfl
    · rw [if_pos (by omega)]
      have : -2 * -x = 2 * x := by omega
      rw [this]
set_option maxHeartbeats 8000000 in

set_option maxHeartbeats 8000000 in
theorem walk (a0 : Option Addr) (len0 cap0 : Nat) (z0 : List Int) (sa : Addr) (w : World) (w0 : IsRow .u8 w a0 len0 cap0 z0) (hs : SW.Sn sa w) :
    Calls Tryd.prog 7 #[.slice a0 len0 cap0] w fun e w' => e = .returned (.bool true) ∧ Below w.heap.size w w' := by
  by_cases hl : (len0 : Int) ≤ 1048576
  · go_enter Tryd.func7, Tryd.ntmps7
    go_wp2_with fail
    refine (DW.drawArcOf_any _ _ _ _ (src w0)).mono ?_
    rintro e v1 ⟨x, rfl, x0, x1, Bx⟩
    have B := Bx
    replace hs := hs.kept Bx
    clear Bx
    cases hx : SK.okE x
    · have F1 : ∀ w, Calls Tryd.prog 25 #[.int .i64 (x)] w fun e w' => e = .returned (.tuple #[SK.spV (0) (0), .bool false]) ∧ Below w.heap.size w w' := fun w => by have := SK.sArcOf_any (x) w; rw [hx] at this; exact this
      have F2 : ∀ w, Calls Tryd.prog 26 #[.int .i64 (x)] w fun e w' => e = .returned (.tuple #[SK.spV (0) (0), .bool false]) ∧ Below w.heap.size w w' := fun w => by have := SK.arcOf_any (x) w; rw [hx] at this; exact this
      clear hx
      go_wp2_with fail
      refine (F1 _).mono ?_
      rintro e v2 ⟨rfl, Bx⟩
      replace B := SK.below1 B Bx
      replace hs := hs.kept Bx
      clear Bx
      have X := SK.Box.new v2 (0) (0) 25
      replace B := SK.below1 B (SK.below_new v2 (.cells #[.int .i64 (0), .int .i64 (0)] 25))
      replace hs := hs.alloc (.cells #[.int .i64 (0), .int .i64 (0)] 25)
      have ⟨Xc0, Xc1, Xf0, Xf1⟩ := X
      go_wp2_with fail
      refine (F2 _).mono ?_
      rintro e v3 ⟨rfl, Bx⟩
      clear Xc0 Xc1 Xf0 Xf1
      replace X := X.kept Bx
      replace B := SK.below1 B Bx
      replace hs := hs.kept Bx
      clear Bx
      replace X := X.alloc (.cells #[.int .i64 (0), .int .i64 (0)] 25)
      have Y := SK.Box.new v3 (0) (0) 25
      replace B := SK.below1 B (SK.below_new v3 (.cells #[.int .i64 (0), .int .i64 (0)] 25))
      replace hs := hs.alloc (.cells #[.int .i64 (0), .int .i64 (0)] 25)
      have ⟨Xc0, Xc1, Xf0, Xf1⟩ := X
      have ⟨Yc0, Yc1, Yf0, Yf1⟩ := Y
      go_wp2
      go_ret
      exact ⟨rfl, B⟩
    · by_cases hn : x < 0
      · have F1 : ∀ w, Calls Tryd.prog 25 #[.int .i64 (x)] w fun e w' => e = .returned (.tuple #[SK.spV (SK.arL x) (SK.arH x), .bool true]) ∧ Below w.heap.size w w' := fun w => by have := SK.sArcOf_any (x) w; rw [hx] at this; exact this
        have F2 : ∀ w, Calls Tryd.prog 26 #[.int .i64 (x)] w fun e w' => e = .returned (.tuple #[SK.spV (SK.arL x) (SK.arH x), .bool true]) ∧ Below w.heap.size w w' := fun w => by have := SK.arcOf_any (x) w; rw [hx] at this; exact this
        clear hx
        generalize SK.arL x = p at *
        generalize SK.arH x = q at *
        go_wp2_with fail
        refine (F1 _).mono ?_
        rintro e v2 ⟨rfl, Bx⟩
        replace B := SK.below1 B Bx
        replace hs := hs.kept Bx
        clear Bx
        have X := SK.Box.new v2 (p) (q) 25
        replace B := SK.below1 B (SK.below_new v2 (.cells #[.int .i64 (p), .int .i64 (q)] 25))
        replace hs := hs.alloc (.cells #[.int .i64 (p), .int .i64 (q)] 25)
        have ⟨Xc0, Xc1, Xf0, Xf1⟩ := X
        go_wp2_with fail
        refine (F2 _).mono ?_
        rintro e v3 ⟨rfl, Bx⟩
        clear Xc0 Xc1 Xf0 Xf1
        replace X := X.kept Bx
        replace B := SK.below1 B Bx
        replace hs := hs.kept Bx
        clear Bx
        replace X := X.alloc (.cells #[.int .i64 (p), .int .i64 (q)] 25)
        have Y := SK.Box.new v3 (p) (q) 25
        replace B := SK.below1 B (SK.below_new v3 (.cells #[.int .i64 (p), .int .i64 (q)] 25))
        replace hs := hs.alloc (.cells #[.int .i64 (p), .int .i64 (q)] 25)
        have ⟨Xc0, Xc1, Xf0, Xf1⟩ := X
        have ⟨Yc0, Yc1, Yf0, Yf1⟩ := Y
        go_wp2
        go_ret
        exact ⟨rfl, B⟩
      · obtain ⟨r1, r2, r3, r4, r5, r6, r7, r8⟩ := arc_facts hx hn
        have ha : SK.okA x = true := SK.okA_mk (by have := SK.okE_of hx; omega) (by have := SK.okE_of hx; omega)
        have hb : SK.okE (-x) = true := decide_eq_true (p := -16200000 ≤ -x ∧ -x ≤ 16200000) (by have := SK.okE_of hx; omega)
        have F1 : ∀ w, Calls Tryd.prog 25 #[.int .i64 (x)] w fun e w' => e = .returned (.tuple #[SK.spV (SK.arL x) (SK.arH x), .bool true]) ∧ Below w.heap.size w w' := fun w => by have := SK.sArcOf_any (x) w; rw [hx] at this; exact this
        have F2 : ∀ w, Calls Tryd.prog 26 #[.int .i64 (x)] w fun e w' => e = .returned (.tuple #[SK.spV (SK.arL x) (SK.arH x), .bool true]) ∧ Below w.heap.size w w' := fun w => by have := SK.arcOf_any (x) w; rw [hx] at this; exact this
        have F3 : ∀ w, Calls Tryd.prog 12 #[.int .i64 (x)] w fun e w' => e = .returned (.tuple #[SK.spV (SI.siL (2 * x)) (SI.siH (2 * x)), .bool true]) ∧ Below w.heap.size w w' := fun w => by have := SK.sineOf_any (x) w; rw [ha] at this; exact this
        have F5 : ∀ w, Calls Tryd.prog 26 #[.int .i64 (-x)] w fun e w' => e = .returned (.tuple #[SK.spV (-SK.arH x) (-SK.arL x), .bool true]) ∧ Below w.heap.size w w' := fun w => by have := SK.arcOf_any (-x) w; rw [hb, r5, r6] at this; exact this
        have ok := r8
        cases ht : SK.tanB x
        · obtain ⟨t3, t4⟩ := noTan ht
          have F4 : ∀ w, SW.Sn sa w → Calls Tryd.prog 22 #[.int .i64 (x)] w fun e w' => e = .returned (.tuple #[SK.spV (0) (0), .bool false]) ∧ Below w.heap.size w w' := fun w h => by have := SK.tanOf_any (x) sa w h; rw [ht, t3, t4] at this; exact this
          clear r2 r5 r6 t3 t4 hx ha hb ht
          generalize SK.arL x = p at *
          generalize SK.arH x = q at *
          generalize SI.siL (2 * x) = sl at *
          generalize SI.siH (2 * x) = sh at *
          go_wp2_with fail
          refine (F1 _).mono ?_
          rintro e v2 ⟨rfl, Bx⟩
          replace B := SK.below1 B Bx
          replace hs := hs.kept Bx
          clear Bx
          have X := SK.Box.new v2 (p) (q) 25
          replace B := SK.below1 B (SK.below_new v2 (.cells #[.int .i64 (p), .int .i64 (q)] 25))
          replace hs := hs.alloc (.cells #[.int .i64 (p), .int .i64 (q)] 25)
          have ⟨Xc0, Xc1, Xf0, Xf1⟩ := X
          go_wp2_with fail
          refine (F2 _).mono ?_
          rintro e v3 ⟨rfl, Bx⟩
          clear Xc0 Xc1 Xf0 Xf1
          replace X := X.kept Bx
          replace B := SK.below1 B Bx
          replace hs := hs.kept Bx
          clear Bx
          replace X := X.alloc (.cells #[.int .i64 (p), .int .i64 (q)] 25)
          have Y := SK.Box.new v3 (p) (q) 25
          replace B := SK.below1 B (SK.below_new v3 (.cells #[.int .i64 (p), .int .i64 (q)] 25))
          replace hs := hs.alloc (.cells #[.int .i64 (p), .int .i64 (q)] 25)
          have ⟨Xc0, Xc1, Xf0, Xf1⟩ := X
          have ⟨Yc0, Yc1, Yf0, Yf1⟩ := Y
          go_wp2_with fail
          refine (F3 _).mono ?_
          rintro e v4 ⟨rfl, Bx⟩
          clear Xc0 Xc1 Xf0 Xf1 Yc0 Yc1 Yf0 Yf1
          replace X := X.kept Bx
          replace Y := Y.kept Bx
          replace B := SK.below1 B Bx
          replace hs := hs.kept Bx
          clear Bx
          replace X := X.alloc (.cells #[.int .i64 (sl), .int .i64 (sh)] 25)
          replace Y := Y.alloc (.cells #[.int .i64 (sl), .int .i64 (sh)] 25)
          have S := SK.Box.new v4 (sl) (sh) 25
          replace B := SK.below1 B (SK.below_new v4 (.cells #[.int .i64 (sl), .int .i64 (sh)] 25))
          replace hs := hs.alloc (.cells #[.int .i64 (sl), .int .i64 (sh)] 25)
          have ⟨Xc0, Xc1, Xf0, Xf1⟩ := X
          have ⟨Yc0, Yc1, Yf0, Yf1⟩ := Y
          have ⟨Sc0, Sc1, Sf0, Sf1⟩ := S
          go_wp2_with fail
          refine (F4 _ hs).mono ?_
          rintro e v5 ⟨rfl, Bx⟩
          clear Xc0 Xc1 Xf0 Xf1 Yc0 Yc1 Yf0 Yf1 Sc0 Sc1 Sf0 Sf1
          replace X := X.kept Bx
          replace Y := Y.kept Bx
          replace S := S.kept Bx
          replace B := SK.below1 B Bx
          replace hs := hs.kept Bx
          clear Bx
          replace X := X.alloc (.cells #[.int .i64 (0), .int .i64 (0)] 25)
          replace Y := Y.alloc (.cells #[.int .i64 (0), .int .i64 (0)] 25)
          replace S := S.alloc (.cells #[.int .i64 (0), .int .i64 (0)] 25)
          have T := SK.Box.new v5 (0) (0) 25
          replace B := SK.below1 B (SK.below_new v5 (.cells #[.int .i64 (0), .int .i64 (0)] 25))
          replace hs := hs.alloc (.cells #[.int .i64 (0), .int .i64 (0)] 25)
          have ⟨Xc0, Xc1, Xf0, Xf1⟩ := X
          have ⟨Yc0, Yc1, Yf0, Yf1⟩ := Y
          have ⟨Sc0, Sc1, Sf0, Sf1⟩ := S
          have ⟨Tc0, Tc1, Tf0, Tf1⟩ := T
          go_wp2_with fail
          refine (F5 _).mono ?_
          rintro e v6 ⟨rfl, Bx⟩
          clear Xc0 Xc1 Xf0 Xf1 Yc0 Yc1 Yf0 Yf1 Sc0 Sc1 Sf0 Sf1 Tc0 Tc1 Tf0 Tf1
          replace X := X.kept Bx
          replace Y := Y.kept Bx
          replace S := S.kept Bx
          replace T := T.kept Bx
          replace B := SK.below1 B Bx
          replace hs := hs.kept Bx
          clear Bx
          replace X := X.alloc (.cells #[.int .i64 (-q), .int .i64 (-p)] 25)
          replace Y := Y.alloc (.cells #[.int .i64 (-q), .int .i64 (-p)] 25)
          replace S := S.alloc (.cells #[.int .i64 (-q), .int .i64 (-p)] 25)
          replace T := T.alloc (.cells #[.int .i64 (-q), .int .i64 (-p)] 25)
          have U := SK.Box.new v6 (-q) (-p) 25
          replace B := SK.below1 B (SK.below_new v6 (.cells #[.int .i64 (-q), .int .i64 (-p)] 25))
          replace hs := hs.alloc (.cells #[.int .i64 (-q), .int .i64 (-p)] 25)
          have ⟨Xc0, Xc1, Xf0, Xf1⟩ := X
          have ⟨Yc0, Yc1, Yf0, Yf1⟩ := Y
          have ⟨Sc0, Sc1, Sf0, Sf1⟩ := S
          have ⟨Tc0, Tc1, Tf0, Tf1⟩ := T
          have ⟨Uc0, Uc1, Uf0, Uf1⟩ := U
          go_wp2_with fail
          clear Xc0 Xc1 Xf0 Xf1 Yc0 Yc1 Yf0 Yf1 Sc0 Sc1 Sf0 Sf1 Tc0 Tc1 Tf0 Tf1 Uc0 Uc1 Uf0 Uf1
          generalize (v6.alloc (.cells #[.int .i64 (-q), .int .i64 (-p)] 25)) = wz at *
          have Xk0 := cell_regrown X.c0
          have Xk1 := cell_regrown X.c1
          have Yk0 := cell_regrown Y.c0
          have Yk1 := cell_regrown Y.c1
          have Sk0 := cell_regrown S.c0
          have Sk1 := cell_regrown S.c1
          have Tk0 := cell_regrown T.c0
          have Tk1 := cell_regrown T.c1
          have Uk0 := cell_regrown U.c0
          have Uk1 := cell_regrown U.c1
          have c1 : ∀ d os, Calls Tryd.prog 23 #[SK.spV p q] (grow (redrawn wz d) os) fun e w'' => e = .returned (SK.spV (-q) (-p)) ∧ ∃ p : Regrown, w'' = grow (redrawn wz p.d) p.os := fun d os => Calls.regrown_of (by have := SW.spanNeg_any p q sa _ (hs.kept (below_regrown wz d os)); rw [ok] at this; exact this)
          have lh := SM.okS_of ok
          have u1 : IntKind.i64.wrap (q - p) = q - p := SK.wrap_id (by omega) (by omega)
          clear lh
          refine KS.region (by kernel_rfl) (by kernel_rfl) ?_
          repeat (refine KS.step (fun K hK => ?_); go_simp; refine hK _ ?_; clear hK K)
          refine KS.step (fun K hK => ?_)
          go_simp
          apply Exists.intro
          refine ⟨fun _ => ?_, hK _ ?_⟩
          exact c1 _ _
          clear hK K
          repeat (refine KS.step (fun K hK => ?_); go_simp; refine hK _ ?_; clear hK K)
          refine KS.nil ?_
          rintro _ ⟨p, rfl⟩
          go_wp2
          go_ret
          exact ⟨rfl, SK.below1 B (below_regrown _ _ _)⟩
        · obtain ⟨_, _, t3, t4⟩ := told ht
          have r9 : SK.arL x ≤ SK.tanH x := by rw [t4]; exact r2
          have F4 : ∀ w, SW.Sn sa w → Calls Tryd.prog 22 #[.int .i64 (x)] w fun e w' => e = .returned (.tuple #[SK.spV (SK.tanL (x)) (SK.tanH (x)), .bool true]) ∧ Below w.heap.size w w' := fun w h => by have := SK.tanOf_any (x) sa w h; rw [ht] at this; exact this
          clear r2 r5 r6 t3 t4 hx ha hb ht
          generalize SK.arL x = p at *
          generalize SK.arH x = q at *
          generalize SI.siL (2 * x) = sl at *
          generalize SI.siH (2 * x) = sh at *
          generalize SK.tanL (x) = tl at *
          generalize SK.tanH (x) = th at *
          go_wp2_with fail
          refine (F1 _).mono ?_
          rintro e v2 ⟨rfl, Bx⟩
          replace B := SK.below1 B Bx
          replace hs := hs.kept Bx
          clear Bx
          have X := SK.Box.new v2 (p) (q) 25
          replace B := SK.below1 B (SK.below_new v2 (.cells #[.int .i64 (p), .int .i64 (q)] 25))
          replace hs := hs.alloc (.cells #[.int .i64 (p), .int .i64 (q)] 25)
          have ⟨Xc0, Xc1, Xf0, Xf1⟩ := X
          go_wp2_with fail
          refine (F2 _).mono ?_
          rintro e v3 ⟨rfl, Bx⟩
          clear Xc0 Xc1 Xf0 Xf1
          replace X := X.kept Bx
          replace B := SK.below1 B Bx
          replace hs := hs.kept Bx
          clear Bx
          replace X := X.alloc (.cells #[.int .i64 (p), .int .i64 (q)] 25)
          have Y := SK.Box.new v3 (p) (q) 25
          replace B := SK.below1 B (SK.below_new v3 (.cells #[.int .i64 (p), .int .i64 (q)] 25))
          replace hs := hs.alloc (.cells #[.int .i64 (p), .int .i64 (q)] 25)
          have ⟨Xc0, Xc1, Xf0, Xf1⟩ := X
          have ⟨Yc0, Yc1, Yf0, Yf1⟩ := Y
          go_wp2_with fail
          refine (F3 _).mono ?_
          rintro e v4 ⟨rfl, Bx⟩
          clear Xc0 Xc1 Xf0 Xf1 Yc0 Yc1 Yf0 Yf1
          replace X := X.kept Bx
          replace Y := Y.kept Bx
          replace B := SK.below1 B Bx
          replace hs := hs.kept Bx
          clear Bx
          replace X := X.alloc (.cells #[.int .i64 (sl), .int .i64 (sh)] 25)
          replace Y := Y.alloc (.cells #[.int .i64 (sl), .int .i64 (sh)] 25)
          have S := SK.Box.new v4 (sl) (sh) 25
          replace B := SK.below1 B (SK.below_new v4 (.cells #[.int .i64 (sl), .int .i64 (sh)] 25))
          replace hs := hs.alloc (.cells #[.int .i64 (sl), .int .i64 (sh)] 25)
          have ⟨Xc0, Xc1, Xf0, Xf1⟩ := X
          have ⟨Yc0, Yc1, Yf0, Yf1⟩ := Y
          have ⟨Sc0, Sc1, Sf0, Sf1⟩ := S
          go_wp2_with fail
          refine (F4 _ hs).mono ?_
          rintro e v5 ⟨rfl, Bx⟩
          clear Xc0 Xc1 Xf0 Xf1 Yc0 Yc1 Yf0 Yf1 Sc0 Sc1 Sf0 Sf1
          replace X := X.kept Bx
          replace Y := Y.kept Bx
          replace S := S.kept Bx
          replace B := SK.below1 B Bx
          replace hs := hs.kept Bx
          clear Bx
          replace X := X.alloc (.cells #[.int .i64 (tl), .int .i64 (th)] 25)
          replace Y := Y.alloc (.cells #[.int .i64 (tl), .int .i64 (th)] 25)
          replace S := S.alloc (.cells #[.int .i64 (tl), .int .i64 (th)] 25)
          have T := SK.Box.new v5 (tl) (th) 25
          replace B := SK.below1 B (SK.below_new v5 (.cells #[.int .i64 (tl), .int .i64 (th)] 25))
          replace hs := hs.alloc (.cells #[.int .i64 (tl), .int .i64 (th)] 25)
          have ⟨Xc0, Xc1, Xf0, Xf1⟩ := X
          have ⟨Yc0, Yc1, Yf0, Yf1⟩ := Y
          have ⟨Sc0, Sc1, Sf0, Sf1⟩ := S
          have ⟨Tc0, Tc1, Tf0, Tf1⟩ := T
          go_wp2_with fail
          refine (F5 _).mono ?_
          rintro e v6 ⟨rfl, Bx⟩
          clear Xc0 Xc1 Xf0 Xf1 Yc0 Yc1 Yf0 Yf1 Sc0 Sc1 Sf0 Sf1 Tc0 Tc1 Tf0 Tf1
          replace X := X.kept Bx
          replace Y := Y.kept Bx
          replace S := S.kept Bx
          replace T := T.kept Bx
          replace B := SK.below1 B Bx
          replace hs := hs.kept Bx
          clear Bx
          replace X := X.alloc (.cells #[.int .i64 (-q), .int .i64 (-p)] 25)
          replace Y := Y.alloc (.cells #[.int .i64 (-q), .int .i64 (-p)] 25)
          replace S := S.alloc (.cells #[.int .i64 (-q), .int .i64 (-p)] 25)
          replace T := T.alloc (.cells #[.int .i64 (-q), .int .i64 (-p)] 25)
          have U := SK.Box.new v6 (-q) (-p) 25
          replace B := SK.below1 B (SK.below_new v6 (.cells #[.int .i64 (-q), .int .i64 (-p)] 25))
          replace hs := hs.alloc (.cells #[.int .i64 (-q), .int .i64 (-p)] 25)
          have ⟨Xc0, Xc1, Xf0, Xf1⟩ := X
          have ⟨Yc0, Yc1, Yf0, Yf1⟩ := Y
          have ⟨Sc0, Sc1, Sf0, Sf1⟩ := S
          have ⟨Tc0, Tc1, Tf0, Tf1⟩ := T
          have ⟨Uc0, Uc1, Uf0, Uf1⟩ := U
          go_wp2_with fail
          clear Xc0 Xc1 Xf0 Xf1 Yc0 Yc1 Yf0 Yf1 Sc0 Sc1 Sf0 Sf1 Tc0 Tc1 Tf0 Tf1 Uc0 Uc1 Uf0 Uf1
          generalize (v6.alloc (.cells #[.int .i64 (-q), .int .i64 (-p)] 25)) = wz at *
          have Xk0 := cell_regrown X.c0
          have Xk1 := cell_regrown X.c1
          have Yk0 := cell_regrown Y.c0
          have Yk1 := cell_regrown Y.c1
          have Sk0 := cell_regrown S.c0
          have Sk1 := cell_regrown S.c1
          have Tk0 := cell_regrown T.c0
          have Tk1 := cell_regrown T.c1
          have Uk0 := cell_regrown U.c0
          have Uk1 := cell_regrown U.c1
          have c1 : ∀ d os, Calls Tryd.prog 23 #[SK.spV p q] (grow (redrawn wz d) os) fun e w'' => e = .returned (SK.spV (-q) (-p)) ∧ ∃ p : Regrown, w'' = grow (redrawn wz p.d) p.os := fun d os => Calls.regrown_of (by have := SW.spanNeg_any p q sa _ (hs.kept (below_regrown wz d os)); rw [ok] at this; exact this)
          have lh := SM.okS_of ok
          have u1 : IntKind.i64.wrap (q - p) = q - p := SK.wrap_id (by omega) (by omega)
          clear lh
          refine KS.region (by kernel_rfl) (by kernel_rfl) ?_
          repeat (refine KS.step (fun K hK => ?_); go_simp; refine hK _ ?_; clear hK K)
          refine KS.step (fun K hK => ?_)
          go_simp
          apply Exists.intro
          refine ⟨fun _ => ?_, hK _ ?_⟩
          exact c1 _ _
          clear hK K
          repeat (refine KS.step (fun K hK => ?_); go_simp; refine hK _ ?_; clear hK K)
          refine KS.nil ?_
          rintro _ ⟨p, rfl⟩
          go_wp2
          go_ret
          exact ⟨rfl, SK.below1 B (below_regrown _ _ _)⟩
  · go_enter Tryd.func7, Tryd.ntmps7
    go_wp2
    go_ret
    exact ⟨rfl, Below.refl _ _⟩

set_option maxRecDepth 100000 in
theorem lifted (os : Os) (started : os.Started) (H : Type) (enc : TypeId × Value → H) :
    ReturnsInHanded {} Tryd.checked os 7 .any (fun w args => (Rows.fnArcOfSpec.pre enc Tryd.prog Tryd.f7 [] false w args ∧ laidMetH Tryd.prog DR.laid1 w) ∧ sizedMet enc Tryd.prog Tryd.f7 (OpenSpec.ofChange Rows.fnArcOfSpec) false w args)
      (Rows.fnArcOfSpec.post enc Tryd.prog Tryd.f7 false true false false) := by
  refine returnsInHanded_of_change_and (C := Tryd.checked) (X := fun w _ => laidMetH Tryd.prog DR.laid1 w) (fun _ _ _ hh h => h.of_heap hh) own started (by kernel_rfl) Tryd.func7
    (ChangeSpec.witness_shaped (enc := enc) (C := Tryd.checked) (os := os) (X := fun w _ => laidMetH Tryd.prog DR.laid1 w) false (World.doorLaid Tryd.prog 400 os) #[.slice none 0 0] 8 rfl (World.shaped_of_RefB (by kernel_rfl) (by kernel_rfl)) (by kernel_rfl) (by kernel_rfl) (by kernel_rfl) (DR.door_met os _)) ?_
  intro W base args ds gs before hval0 hW _ _ hL _
  have hval : ∀ (j : Nat) t v, Tryd.f7.params[j]? = some t → args[j]? = some v → Value.okWide Tryd.prog W .any base t v := hval0
  have hW' := hW
  obtain ⟨p, q, hA0, hV, rfl, hfz, hnd⟩ := hW
  have hA : DataW.TrodAll enc Tryd.prog W 0 (fun _ => true) true Tryd.f7.params.toList args.toList ds p := hA0
  rw [Tryd.params7] at hA hval
  obtain ⟨v0, vs0, d0, ds0, p0, q0, hargs0, rfl, rfl, h0, r0⟩ := trodAll_cons hA
  obtain ⟨rfl, rfl, rfl⟩ := trodAll_nil r0
  obtain rfl : args = #[v0] := by cases args; simp_all
  obtain ⟨sa, hv, hs⟩ := DR.of_laid hL
  obtain ⟨rfl, rfl⟩ := DataW.TrodVars.unique hV (DR.vars_read enc hv _)
  obtain ⟨a0, len0, cap0, rfl⟩ := okWide_slice Tryd.underlying22 (hval 0 22 v0 rfl rfl)
  have k0 := h0
  have lt0 : ∀ x ∈ p0, x.block < W.heap.size := by obtain ⟨m, hm⟩ := k0; exact DataW.trod_lt m _ _ _ hm
  obtain ⟨z0, w0⟩ : ∃ zs, IsRow .u8 W a0 len0 cap0 zs := by
    obtain ⟨fuel, hf⟩ := h0
    rcases open_ints Tryd.underlying22 Tryd.underlying5 (by kernel_rfl) hf with ⟨hcs, _⟩ | ⟨x, l, c, zs, hcs, _, hl, hm, hz, _, hcell, hwz⟩
    · simp [Value.cells] at hcs
      obtain ⟨rfl, rfl, rfl⟩ := hcs
      exact ⟨[], .inl ⟨rfl, rfl, rfl, rfl⟩⟩
    · simp [Value.cells] at hcs
      obtain ⟨rfl, rfl, rfl⟩ := hcs
      exact ⟨zs, .inr ⟨_, rfl, hl, hm, by simpa using hz, hcell, hwz⟩⟩
  clear hA0 hval0
  refine (walk a0 len0 cap0 z0 sa W w0 hs).mono fun e W' ⟨he, bel⟩ => ?_
  subst he
  exact ⟨_, rfl, _, _, _, [], _, [.cell 0 0], hW', trodAll_mk1 (shut_bool Tryd.underlying4 _), (trodAll_cons_mk (Below.trod laidOut (by kernel_rfl) (of_decide_eq_true (by kernel_rfl)) k0 bel lt0) trodAll_mk0), DR.vars_read enc (DR.var_below hv bel) _, bel.frame _, fun h => by cases h⟩

theorem said : Rows.FnArcOfSaid :=
  OpenClaim.holds_of_wide 7 Tryd.f7 rfl rfl rfl rfl rfl rfl rfl ⟨rfl, rfl, rfl, rfl, rfl⟩ rfl rfl rfl rfl rfl (by kernel_rfl) Tryd.func7 (by kernel_rfl)
    (of_decide_eq_true (by kernel_rfl)) (by unfold Func.isWrapper; first | (rw [if_pos (by decide +kernel)]; kernel_rfl) | (rw [if_neg (by decide +kernel)]; exact ⟨rfl, rfl⟩))
    (fun os started H enc _ => lifted os started H enc)

theorem plain (f : FuncId) (fn : Func) (hf : Tryd.pinned.checked.prog.funcNamed "loop.example/alidade/laws.FnArcOf" = some f) (hfn : Tryd.pinned.checked.prog.funcs[f]? = some fn) :
    true = Tryd.pinned.checked.prog.looks [] ∧ ∀ (j : Nat) t, fn.params[j]? = some t → Tryd.pinned.checked.prog.wantsStandIn t = false := by
  obtain rfl : f = 7 := Option.some.inj ((show Tryd.prog.funcNamed "loop.example/alidade/laws.FnArcOf" = some 7 by kernel_rfl).symm.trans hf) |>.symm
  obtain rfl : fn = Tryd.f7 := (Option.some.inj (Tryd.func7.symm.trans hfn)).symm
  refine ⟨by kernel_rfl, fun j t ht => ?_⟩
  rw [Tryd.params7] at ht
  have hm : t ∈ [22] := by
    have := Array.mem_of_getElem? ht
    simpa using this
  have hall : ([22].all fun u => !Tryd.prog.wantsStandIn u) = true := by kernel_rfl
  exact (show Tryd.prog.wantsStandIn t = false by simpa using List.all_eq_true.1 hall t hm)

theorem card : Rows.FnArcOfCardSaid :=
  Claim7.holds_tied_plain_at .later [] _ _ _ _ said (fun _ h => by cases h) (by kernel_rfl) (fun _ h => by cases h) fnArcOf_row_tie rfl ⟨rfl, rfl⟩ (by kernel_rfl) rfl plain (by kernel_rfl)
end Go.Proofs.YthefibnjaoimgaiDoor.fnArcOf
namespace Go.Proofs.YthefibnjaoimgaiDoor
theorem fnArcOf_holds : Rows.FnArcOfCardSaid := fnArcOf.card
#print axioms fnArcOf_holds
end Go.Proofs.YthefibnjaoimgaiDoor
