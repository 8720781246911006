/-
  For every two codes of bytes the law of SpotDist returns true: of drawn places by a third one it is surely not nearer. The package's variable errTooGreat is as the program's text lays it.
-/
import Derived.Test.YtfdkpcejjcifgamDoorCards
import Derived.Test.YtfdkpcejjcifgamDoorTie
import Derived.Test.YtfdkpcejjcifgamDoorDoorKit
import Derived.WalkKit
import Derived.ProofKit
import Derived.OpenShut
import Derived.ShutString
import Derived.ChangeOld
import Derived.Below
import Derived.LaidMore
import Derived.Stop.Joined
import Derived.SevenTiedAt
import Derived.Test.YtfdkpcejjcifgamDoorSpotMemo3
import Derived.Test.YtfdkpcejjcifgamDoorDrawSpot3
import Derived.Test.YtfdkpcejjcifgamDoorSpotBook
namespace Go.Proofs.YtfdkpcejjcifgamDoor.fnSpotDistThree
open Go.ChangeShapes Go.WideShapes Go.ChangeAt Go.RowKit Go.Sort
set_option linter.unusedVariables false

theorem own : ownKnob Tryd.prog.godebug = none := by kernel_rfl
theorem laidOut : laidOutB Tryd.prog = true := by kernel_rfl
/-- What the walk is told of a slice of bytes that came in. -/
def IsRow (k : IntKind) (w : World) (a : Option Addr) (len cap : Nat) (zs : List Int) : Prop :=
  (a = none ∧ len = 0 ∧ cap = 0 ∧ zs = []) ∨
  ∃ x, a = some x ∧ len ≤ cap ∧ cap ≤ maxLen ∧ zs.length = cap ∧ (∀ i, i < zs.length → w.cell? (x.add i) = some (.int k (zs.getD i 0))) ∧ ∀ n ∈ zs, (Lit.int k n).wf = true
theorem add_none (b off i : Nat) : (⟨b, off, none⟩ : Addr).add i = ⟨b, off + i, none⟩ := by
  unfold Addr.add
  split
  · rename_i h
    subst h
    rfl
  · rfl
theorem src {w : World} {a : Option Addr} {len cap : Nat} {zs : List Int} (h : IsRow .u8 w a len cap zs) : DK.Src w a len cap := by
  rcases h with ⟨rfl, rfl, rfl, rfl⟩ | ⟨x, rfl, hl, hm, hz, hcell, hwz⟩
  · exact ⟨by omega, by omega, .inl rfl⟩
  · unfold maxLen at hm
    refine ⟨hl, by omega, ?_⟩
    by_cases h0 : len = 0
    · exact .inl h0
    · obtain ⟨b, off, spot⟩ := x
      have hc := hcell 0 (by omega)
      have hspot : spot = none := by simpa [Addr.add] using World.cell?_spot hc
      subst hspot
      refine .inr ⟨b, off, rfl, fun i hi => ?_⟩
      have hi2 : i < zs.length := by omega
      have hb := bounds_u8 (hwz (zs.getD i 0) (by simp [List.getD, hi2]))
      have hci := hcell i hi2
      rw [add_none] at hci
      exact ⟨zs.getD i 0, hb.1, hb.2, hci⟩

set_option maxHeartbeats 8000000 in

set_option maxHeartbeats 8000000 in
theorem walk (a0 : Option Addr) (len0 cap0 : Nat) (z0 : List Int) (a1 : Option Addr) (len1 cap1 : Nat) (z1 : List Int) (sa : Addr) (w : World) (w0 : IsRow .u8 w a0 len0 cap0 z0) (w1' : IsRow .u8 w a1 len1 cap1 z1) (hs : SW.Sn sa w) :
    Calls Tryd.prog 7 #[.slice a0 len0 cap0, .slice a1 len1 cap1] w fun e w' => e = .returned (.bool true) ∧ Below w.heap.size w w' := by
  by_cases hl : (len0 : Int) ≤ 1048576
  · by_cases hm : (len1 : Int) ≤ 1048576
    · go_enter Tryd.func7, Tryd.ntmps7
      go_wp2_with fail
      refine (DS.drawSpotDist_any _ _ _ _ (src w0)).mono ?_
      rintro e v1 ⟨a, l, b, m, rfl, a0, a1, l0, l1, b0, b1, m0, m1, Bx⟩
      have B := Bx
      replace hs := hs.kept Bx
      clear Bx
      have P := SK.Box.new v1 (a) (l) 24
      replace B := SK.below1 B (SK.below_new v1 (.cells #[.int .i64 (a), .int .i64 (l)] 24))
      replace hs := hs.alloc (.cells #[.int .i64 (a), .int .i64 (l)] 24)
      replace P := P.alloc (.cells #[.int .i64 (b), .int .i64 (m)] 24)
      have Q : SK.Box ((v1.alloc (.cells #[.int .i64 (a), .int .i64 (l)] 24)).alloc (.cells #[.int .i64 (b), .int .i64 (m)] 24)) (v1.heap.size + 1) (b) (m) := by simpa using SK.Box.new (v1.alloc (.cells #[.int .i64 (a), .int .i64 (l)] 24)) (b) (m) 24
      replace B := SK.below1 B (SK.below_new (v1.alloc (.cells #[.int .i64 (a), .int .i64 (l)] 24)) (.cells #[.int .i64 (b), .int .i64 (m)] 24))
      replace hs := hs.alloc (.cells #[.int .i64 (b), .int .i64 (m)] 24)
      go_wp2_with fail
      refine (DS.drawSpotFar_any _ _ _ _ ((src w1').kept B)).mono ?_
      rintro e v2 ⟨g, n, rfl, g0, g1, n0, n1, Bx⟩
      replace P := P.kept Bx
      replace Q := Q.kept Bx
      replace B := SK.below1 B Bx
      replace hs := hs.kept Bx
      clear Bx
      replace P := P.alloc (.cells #[.int .i64 (g), .int .i64 (n)] 24)
      replace Q := Q.alloc (.cells #[.int .i64 (g), .int .i64 (n)] 24)
      have R := SK.Box.new v2 (g) (n) 24
      replace B := SK.below1 B (SK.below_new v2 (.cells #[.int .i64 (g), .int .i64 (n)] 24))
      replace hs := hs.alloc (.cells #[.int .i64 (g), .int .i64 (n)] 24)
      cases hx : (SK.okP a l && SK.okP b m)
      · have F1 : ∀ w, Calls Tryd.prog 9 #[SK.spV (a) (l), SK.spV (b) (m)] w fun e w' => e = .returned (.tuple #[SK.spV (0) (0), .bool false]) ∧ Below w.heap.size w w' := fun w => by have := SK.sSpotDist_any (a) (l) (b) (m) w; rw [hx] at this; simp only [SM.sel] at this; exact this
        have F2 : ∀ w, SW.Sn sa w → Calls Tryd.prog 10 #[SK.spV (a) (l), SK.spV (b) (m)] w fun e w' => e = .returned (.tuple #[SK.spV (0) (0), .bool false]) ∧ Below w.heap.size w w' := fun w hs => by have := SK.spotDist_any (a) (l) (b) (m) sa w hs; rw [hx] at this; simp only [SM.sel] at this; exact this
        clear hx
        have ⟨Pc0, Pc1, Pf0, Pf1⟩ := P
        have ⟨Qc0, Qc1, Qf0, Qf1⟩ := Q
        have ⟨Rc0, Rc1, Rf0, Rf1⟩ := R
        go_wp2_with fail
        refine (F1 _).mono ?_
        rintro e v3 ⟨rfl, Bx⟩
        clear Pc0 Pc1 Pf0 Pf1 Qc0 Qc1 Qf0 Qf1 Rc0 Rc1 Rf0 Rf1
        replace P := P.kept Bx
        replace Q := Q.kept Bx
        replace R := R.kept Bx
        replace B := SK.below1 B Bx
        replace hs := hs.kept Bx
        clear Bx
        replace P := P.alloc (.cells #[.int .i64 (0), .int .i64 (0)] 28)
        replace Q := Q.alloc (.cells #[.int .i64 (0), .int .i64 (0)] 28)
        replace R := R.alloc (.cells #[.int .i64 (0), .int .i64 (0)] 28)
        have S1 := SK.Box.new v3 (0) (0) 28
        replace B := SK.below1 B (SK.below_new v3 (.cells #[.int .i64 (0), .int .i64 (0)] 28))
        replace hs := hs.alloc (.cells #[.int .i64 (0), .int .i64 (0)] 28)
        have ⟨Pc0, Pc1, Pf0, Pf1⟩ := P
        have ⟨Qc0, Qc1, Qf0, Qf1⟩ := Q
        have ⟨Rc0, Rc1, Rf0, Rf1⟩ := R
        have ⟨S1c0, S1c1, S1f0, S1f1⟩ := S1
        go_wp2_with fail
        refine (F2 _ hs).mono ?_
        rintro e v4 ⟨rfl, Bx⟩
        clear Pc0 Pc1 Pf0 Pf1 Qc0 Qc1 Qf0 Qf1 Rc0 Rc1 Rf0 Rf1 S1c0 S1c1 S1f0 S1f1
        replace P := P.kept Bx
        replace Q := Q.kept Bx
        replace R := R.kept Bx
        replace S1 := S1.kept Bx
        replace B := SK.below1 B Bx
        replace hs := hs.kept Bx
        clear Bx
        replace P := P.alloc (.cells #[.int .i64 (0), .int .i64 (0)] 28)
        replace Q := Q.alloc (.cells #[.int .i64 (0), .int .i64 (0)] 28)
        replace R := R.alloc (.cells #[.int .i64 (0), .int .i64 (0)] 28)
        replace S1 := S1.alloc (.cells #[.int .i64 (0), .int .i64 (0)] 28)
        have S2 := SK.Box.new v4 (0) (0) 28
        replace B := SK.below1 B (SK.below_new v4 (.cells #[.int .i64 (0), .int .i64 (0)] 28))
        replace hs := hs.alloc (.cells #[.int .i64 (0), .int .i64 (0)] 28)
        have ⟨Pc0, Pc1, Pf0, Pf1⟩ := P
        have ⟨Qc0, Qc1, Qf0, Qf1⟩ := Q
        have ⟨Rc0, Rc1, Rf0, Rf1⟩ := R
        have ⟨S1c0, S1c1, S1f0, S1f1⟩ := S1
        have ⟨S2c0, S2c1, S2f0, S2f1⟩ := S2
        go_wp2
        go_ret
        exact ⟨rfl, B⟩
      · cases hr : SK.okP g n
        · have hxx := hx
          rw [Bool.and_eq_true] at hxx
          obtain ⟨h1, h2⟩ := hxx
          obtain ⟨⟨pa0, pa1⟩, pl0, pl1⟩ := SK.okP_of h1
          obtain ⟨⟨qa0, qa1⟩, ql0, ql1⟩ := SK.okP_of h2
          have F1 : ∀ w, Calls Tryd.prog 9 #[SK.spV (a) (l), SK.spV (b) (m)] w fun e w' => e = .returned (.tuple #[SK.spV (SI.dsL a l b m) (SI.dsH a l b m), .bool true]) ∧ Below w.heap.size w w' := fun w => by have := SK.sSpotDist_any (a) (l) (b) (m) w; rw [hx] at this; simp only [SM.sel] at this; exact this
          have F2 : ∀ w, SW.Sn sa w → Calls Tryd.prog 10 #[SK.spV (a) (l), SK.spV (b) (m)] w fun e w' => e = .returned (.tuple #[SK.spV (SI.dsL a l b m) (SI.dsH a l b m), .bool true]) ∧ Below w.heap.size w w' := fun w hs => by have := SK.spotDist_any (a) (l) (b) (m) sa w hs; rw [hx] at this; simp only [SM.sel] at this; exact this
          have F3 : ∀ w, Calls Tryd.prog 15 #[SK.spV (g) (n)] w fun e w' => e = .returned (.bool false) ∧ Below w.heap.size w w' := fun w => by have := SK.sSpotOk_any g n w; rw [hr] at this; exact this
          clear hx h1 h2 hr
          generalize SI.dsL a l b m = p at *
          generalize SI.dsH a l b m = q at *
          have ⟨Pc0, Pc1, Pf0, Pf1⟩ := P
          have ⟨Qc0, Qc1, Qf0, Qf1⟩ := Q
          have ⟨Rc0, Rc1, Rf0, Rf1⟩ := R
          go_wp2_with fail
          refine (F1 _).mono ?_
          rintro e v3 ⟨rfl, Bx⟩
          clear Pc0 Pc1 Pf0 Pf1 Qc0 Qc1 Qf0 Qf1 Rc0 Rc1 Rf0 Rf1
          replace P := P.kept Bx
          replace Q := Q.kept Bx
          replace R := R.kept Bx
          replace B := SK.below1 B Bx
          replace hs := hs.kept Bx
          clear Bx
          replace P := P.alloc (.cells #[.int .i64 (p), .int .i64 (q)] 28)
          replace Q := Q.alloc (.cells #[.int .i64 (p), .int .i64 (q)] 28)
          replace R := R.alloc (.cells #[.int .i64 (p), .int .i64 (q)] 28)
          have S1 := SK.Box.new v3 (p) (q) 28
          replace B := SK.below1 B (SK.below_new v3 (.cells #[.int .i64 (p), .int .i64 (q)] 28))
          replace hs := hs.alloc (.cells #[.int .i64 (p), .int .i64 (q)] 28)
          have ⟨Pc0, Pc1, Pf0, Pf1⟩ := P
          have ⟨Qc0, Qc1, Qf0, Qf1⟩ := Q
          have ⟨Rc0, Rc1, Rf0, Rf1⟩ := R
          have ⟨S1c0, S1c1, S1f0, S1f1⟩ := S1
          go_wp2_with fail
          refine (F2 _ hs).mono ?_
          rintro e v4 ⟨rfl, Bx⟩
          clear Pc0 Pc1 Pf0 Pf1 Qc0 Qc1 Qf0 Qf1 Rc0 Rc1 Rf0 Rf1 S1c0 S1c1 S1f0 S1f1
          replace P := P.kept Bx
          replace Q := Q.kept Bx
          replace R := R.kept Bx
          replace S1 := S1.kept Bx
          replace B := SK.below1 B Bx
          replace hs := hs.kept Bx
          clear Bx
          replace P := P.alloc (.cells #[.int .i64 (p), .int .i64 (q)] 28)
          replace Q := Q.alloc (.cells #[.int .i64 (p), .int .i64 (q)] 28)
          replace R := R.alloc (.cells #[.int .i64 (p), .int .i64 (q)] 28)
          replace S1 := S1.alloc (.cells #[.int .i64 (p), .int .i64 (q)] 28)
          have S2 := SK.Box.new v4 (p) (q) 28
          replace B := SK.below1 B (SK.below_new v4 (.cells #[.int .i64 (p), .int .i64 (q)] 28))
          replace hs := hs.alloc (.cells #[.int .i64 (p), .int .i64 (q)] 28)
          have ⟨Pc0, Pc1, Pf0, Pf1⟩ := P
          have ⟨Qc0, Qc1, Qf0, Qf1⟩ := Q
          have ⟨Rc0, Rc1, Rf0, Rf1⟩ := R
          have ⟨S1c0, S1c1, S1f0, S1f1⟩ := S1
          have ⟨S2c0, S2c1, S2f0, S2f1⟩ := S2
          go_wp2_with fail
          refine (F3 _).mono ?_
          rintro e v5 ⟨rfl, Bx⟩
          clear Pc0 Pc1 Pf0 Pf1 Qc0 Qc1 Qf0 Qf1 Rc0 Rc1 Rf0 Rf1 S1c0 S1c1 S1f0 S1f1 S2c0 S2c1 S2f0 S2f1
          replace P := P.kept Bx
          replace Q := Q.kept Bx
          replace R := R.kept Bx
          replace S1 := S1.kept Bx
          replace S2 := S2.kept Bx
          replace B := SK.below1 B Bx
          replace hs := hs.kept Bx
          clear Bx
          have ⟨Pc0, Pc1, Pf0, Pf1⟩ := P
          have ⟨Qc0, Qc1, Qf0, Qf1⟩ := Q
          have ⟨Rc0, Rc1, Rf0, Rf1⟩ := R
          have ⟨S1c0, S1c1, S1f0, S1f1⟩ := S1
          have ⟨S2c0, S2c1, S2f0, S2f1⟩ := S2
          go_wp2
          go_ret
          exact ⟨rfl, B⟩
        · have hxx := hx
          rw [Bool.and_eq_true] at hxx
          obtain ⟨h1, h2⟩ := hxx
          obtain ⟨⟨pa0, pa1⟩, pl0, pl1⟩ := SK.okP_of h1
          obtain ⟨⟨qa0, qa1⟩, ql0, ql1⟩ := SK.okP_of h2
          have F1 : ∀ w, Calls Tryd.prog 9 #[SK.spV (a) (l), SK.spV (b) (m)] w fun e w' => e = .returned (.tuple #[SK.spV (SI.dsL a l b m) (SI.dsH a l b m), .bool true]) ∧ Below w.heap.size w w' := fun w => by have := SK.sSpotDist_any (a) (l) (b) (m) w; rw [hx] at this; simp only [SM.sel] at this; exact this
          have F2 : ∀ w, SW.Sn sa w → Calls Tryd.prog 10 #[SK.spV (a) (l), SK.spV (b) (m)] w fun e w' => e = .returned (.tuple #[SK.spV (SI.dsL a l b m) (SI.dsH a l b m), .bool true]) ∧ Below w.heap.size w w' := fun w hs => by have := SK.spotDist_any (a) (l) (b) (m) sa w hs; rw [hx] at this; simp only [SM.sel] at this; exact this
          have F3 : ∀ w, Calls Tryd.prog 15 #[SK.spV (g) (n)] w fun e w' => e = .returned (.bool true) ∧ Below w.heap.size w w' := fun w => by have := SK.sSpotOk_any g n w; rw [hr] at this; exact this
          obtain ⟨⟨ra0, ra1⟩, rl0, rl1⟩ := SK.okP_of hr
          have hy : (SK.okP a l && SK.okP g n) = true := by rw [h1, hr]; rfl
          have hz : (SK.okP g n && SK.okP b m) = true := by rw [hr, h2]; rfl
          have F4 : ∀ w, SW.Sn sa w → Calls Tryd.prog 10 #[SK.spV (a) (l), SK.spV (g) (n)] w fun e w' => e = .returned (.tuple #[SK.spV (SI.dsL a l g n) (SI.dsH a l g n), .bool true]) ∧ Below w.heap.size w w' := fun w hs => by have := SK.spotDist_any (a) (l) (g) (n) sa w hs; rw [hy] at this; simp only [SM.sel] at this; exact this
          have F5 : ∀ w, SW.Sn sa w → Calls Tryd.prog 10 #[SK.spV (g) (n), SK.spV (b) (m)] w fun e w' => e = .returned (.tuple #[SK.spV (SI.dsL g n b m) (SI.dsH g n b m), .bool true]) ∧ Below w.heap.size w w' := fun w hs => by have := SK.spotDist_any (g) (n) (b) (m) sa w hs; rw [hz] at this; simp only [SM.sel] at this; exact this
          have th := SI.three (a := a) (l := l) (b := b) (m := m) (e := g) (n := n) ⟨pa0, pa1, pl0, by omega⟩ ⟨qa0, qa1, ql0, by omega⟩ ⟨ra0, ra1, rl0, by omega⟩
          obtain ⟨e0', e1', e2'⟩ := SI.ds_bd a l g n
          obtain ⟨f0, f1, f2⟩ := SI.ds_bd g n b m
          clear hy hz
          generalize SI.dsL a l g n = r at *
          generalize SI.dsH a l g n = t at *
          generalize SI.dsL g n b m = u at *
          generalize SI.dsH g n b m = v at *
          clear hx h1 h2 hr
          generalize SI.dsL a l b m = p at *
          generalize SI.dsH a l b m = q at *
          have ⟨Pc0, Pc1, Pf0, Pf1⟩ := P
          have ⟨Qc0, Qc1, Qf0, Qf1⟩ := Q
          have ⟨Rc0, Rc1, Rf0, Rf1⟩ := R
          go_wp2_with fail
          refine (F1 _).mono ?_
          rintro e v3 ⟨rfl, Bx⟩
          clear Pc0 Pc1 Pf0 Pf1 Qc0 Qc1 Qf0 Qf1 Rc0 Rc1 Rf0 Rf1
          replace P := P.kept Bx
          replace Q := Q.kept Bx
          replace R := R.kept Bx
          replace B := SK.below1 B Bx
          replace hs := hs.kept Bx
          clear Bx
          replace P := P.alloc (.cells #[.int .i64 (p), .int .i64 (q)] 28)
          replace Q := Q.alloc (.cells #[.int .i64 (p), .int .i64 (q)] 28)
          replace R := R.alloc (.cells #[.int .i64 (p), .int .i64 (q)] 28)
          have S1 := SK.Box.new v3 (p) (q) 28
          replace B := SK.below1 B (SK.below_new v3 (.cells #[.int .i64 (p), .int .i64 (q)] 28))
          replace hs := hs.alloc (.cells #[.int .i64 (p), .int .i64 (q)] 28)
          have ⟨Pc0, Pc1, Pf0, Pf1⟩ := P
          have ⟨Qc0, Qc1, Qf0, Qf1⟩ := Q
          have ⟨Rc0, Rc1, Rf0, Rf1⟩ := R
          have ⟨S1c0, S1c1, S1f0, S1f1⟩ := S1
          go_wp2_with fail
          refine (F2 _ hs).mono ?_
          rintro e v4 ⟨rfl, Bx⟩
          clear Pc0 Pc1 Pf0 Pf1 Qc0 Qc1 Qf0 Qf1 Rc0 Rc1 Rf0 Rf1 S1c0 S1c1 S1f0 S1f1
          replace P := P.kept Bx
          replace Q := Q.kept Bx
          replace R := R.kept Bx
          replace S1 := S1.kept Bx
          replace B := SK.below1 B Bx
          replace hs := hs.kept Bx
          clear Bx
          replace P := P.alloc (.cells #[.int .i64 (p), .int .i64 (q)] 28)
          replace Q := Q.alloc (.cells #[.int .i64 (p), .int .i64 (q)] 28)
          replace R := R.alloc (.cells #[.int .i64 (p), .int .i64 (q)] 28)
          replace S1 := S1.alloc (.cells #[.int .i64 (p), .int .i64 (q)] 28)
          have S2 := SK.Box.new v4 (p) (q) 28
          replace B := SK.below1 B (SK.below_new v4 (.cells #[.int .i64 (p), .int .i64 (q)] 28))
          replace hs := hs.alloc (.cells #[.int .i64 (p), .int .i64 (q)] 28)
          have ⟨Pc0, Pc1, Pf0, Pf1⟩ := P
          have ⟨Qc0, Qc1, Qf0, Qf1⟩ := Q
          have ⟨Rc0, Rc1, Rf0, Rf1⟩ := R
          have ⟨S1c0, S1c1, S1f0, S1f1⟩ := S1
          have ⟨S2c0, S2c1, S2f0, S2f1⟩ := S2
          go_wp2_with fail
          refine (F3 _).mono ?_
          rintro e v5 ⟨rfl, Bx⟩
          clear Pc0 Pc1 Pf0 Pf1 Qc0 Qc1 Qf0 Qf1 Rc0 Rc1 Rf0 Rf1 S1c0 S1c1 S1f0 S1f1 S2c0 S2c1 S2f0 S2f1
          replace P := P.kept Bx
          replace Q := Q.kept Bx
          replace R := R.kept Bx
          replace S1 := S1.kept Bx
          replace S2 := S2.kept Bx
          replace B := SK.below1 B Bx
          replace hs := hs.kept Bx
          clear Bx
          have ⟨Pc0, Pc1, Pf0, Pf1⟩ := P
          have ⟨Qc0, Qc1, Qf0, Qf1⟩ := Q
          have ⟨Rc0, Rc1, Rf0, Rf1⟩ := R
          have ⟨S1c0, S1c1, S1f0, S1f1⟩ := S1
          have ⟨S2c0, S2c1, S2f0, S2f1⟩ := S2
          go_wp2_with fail
          refine (F4 _ hs).mono ?_
          rintro e v6 ⟨rfl, Bx⟩
          clear Pc0 Pc1 Pf0 Pf1 Qc0 Qc1 Qf0 Qf1 Rc0 Rc1 Rf0 Rf1 S1c0 S1c1 S1f0 S1f1 S2c0 S2c1 S2f0 S2f1
          replace P := P.kept Bx
          replace Q := Q.kept Bx
          replace R := R.kept Bx
          replace S1 := S1.kept Bx
          replace S2 := S2.kept Bx
          replace B := SK.below1 B Bx
          replace hs := hs.kept Bx
          clear Bx
          replace P := P.alloc (.cells #[.int .i64 (r), .int .i64 (t)] 28)
          replace Q := Q.alloc (.cells #[.int .i64 (r), .int .i64 (t)] 28)
          replace R := R.alloc (.cells #[.int .i64 (r), .int .i64 (t)] 28)
          replace S1 := S1.alloc (.cells #[.int .i64 (r), .int .i64 (t)] 28)
          replace S2 := S2.alloc (.cells #[.int .i64 (r), .int .i64 (t)] 28)
          have S4 := SK.Box.new v6 (r) (t) 28
          replace B := SK.below1 B (SK.below_new v6 (.cells #[.int .i64 (r), .int .i64 (t)] 28))
          replace hs := hs.alloc (.cells #[.int .i64 (r), .int .i64 (t)] 28)
          have ⟨Pc0, Pc1, Pf0, Pf1⟩ := P
          have ⟨Qc0, Qc1, Qf0, Qf1⟩ := Q
          have ⟨Rc0, Rc1, Rf0, Rf1⟩ := R
          have ⟨S1c0, S1c1, S1f0, S1f1⟩ := S1
          have ⟨S2c0, S2c1, S2f0, S2f1⟩ := S2
          have ⟨S4c0, S4c1, S4f0, S4f1⟩ := S4
          go_wp2_with fail
          refine (F5 _ hs).mono ?_
          rintro e v7 ⟨rfl, Bx⟩
          clear Pc0 Pc1 Pf0 Pf1 Qc0 Qc1 Qf0 Qf1 Rc0 Rc1 Rf0 Rf1 S1c0 S1c1 S1f0 S1f1 S2c0 S2c1 S2f0 S2f1 S4c0 S4c1 S4f0 S4f1
          replace P := P.kept Bx
          replace Q := Q.kept Bx
          replace R := R.kept Bx
          replace S1 := S1.kept Bx
          replace S2 := S2.kept Bx
          replace S4 := S4.kept Bx
          replace B := SK.below1 B Bx
          replace hs := hs.kept Bx
          clear Bx
          replace P := P.alloc (.cells #[.int .i64 (u), .int .i64 (v)] 28)
          replace Q := Q.alloc (.cells #[.int .i64 (u), .int .i64 (v)] 28)
          replace R := R.alloc (.cells #[.int .i64 (u), .int .i64 (v)] 28)
          replace S1 := S1.alloc (.cells #[.int .i64 (u), .int .i64 (v)] 28)
          replace S2 := S2.alloc (.cells #[.int .i64 (u), .int .i64 (v)] 28)
          replace S4 := S4.alloc (.cells #[.int .i64 (u), .int .i64 (v)] 28)
          have S5 := SK.Box.new v7 (u) (v) 28
          replace B := SK.below1 B (SK.below_new v7 (.cells #[.int .i64 (u), .int .i64 (v)] 28))
          replace hs := hs.alloc (.cells #[.int .i64 (u), .int .i64 (v)] 28)
          have ⟨Pc0, Pc1, Pf0, Pf1⟩ := P
          have ⟨Qc0, Qc1, Qf0, Qf1⟩ := Q
          have ⟨Rc0, Rc1, Rf0, Rf1⟩ := R
          have ⟨S1c0, S1c1, S1f0, S1f1⟩ := S1
          have ⟨S2c0, S2c1, S2f0, S2f1⟩ := S2
          have ⟨S4c0, S4c1, S4f0, S4f1⟩ := S4
          have ⟨S5c0, S5c1, S5f0, S5f1⟩ := S5
          go_wp2
          go_ret
          exact ⟨rfl, B⟩
    · go_enter Tryd.func7, Tryd.ntmps7
      go_wp2
      go_ret
      exact ⟨rfl, Below.refl _ _⟩
  · go_enter Tryd.func7, Tryd.ntmps7
    go_wp2
    go_ret
    exact ⟨rfl, Below.refl _ _⟩

set_option maxRecDepth 100000 in
theorem lifted (os : Os) (started : os.Started) (H : Type) (enc : TypeId × Value → H) :
    ReturnsInHanded {} Tryd.checked os 7 .any (fun w args => (Rows.fnSpotDistThreeSpec.pre enc Tryd.prog Tryd.f7 [] false w args ∧ laidMetH Tryd.prog DR.laid1 w) ∧ sizedMet enc Tryd.prog Tryd.f7 (OpenSpec.ofChange Rows.fnSpotDistThreeSpec) false w args)
      (Rows.fnSpotDistThreeSpec.post enc Tryd.prog Tryd.f7 false true false false) := by
  refine returnsInHanded_of_change_and (C := Tryd.checked) (X := fun w _ => laidMetH Tryd.prog DR.laid1 w) (fun _ _ _ hh h => h.of_heap hh) own started (by kernel_rfl) Tryd.func7
    (ChangeSpec.witness_shaped (enc := enc) (C := Tryd.checked) (os := os) (X := fun w _ => laidMetH Tryd.prog DR.laid1 w) false (World.doorLaid Tryd.prog 400 os) #[.slice none 0 0, .slice none 0 0] 8 rfl (World.shaped_of_RefB (by kernel_rfl) (by kernel_rfl)) (by kernel_rfl) (by kernel_rfl) (by kernel_rfl) (DR.door_met os _)) ?_
  intro W base args ds gs before hval0 hW _ _ hL _
  have hval : ∀ (j : Nat) t v, Tryd.f7.params[j]? = some t → args[j]? = some v → Value.okWide Tryd.prog W .any base t v := hval0
  have hW' := hW
  obtain ⟨p, q, hA0, hV, rfl, hfz, hnd⟩ := hW
  have hA : DataW.TrodAll enc Tryd.prog W 0 (fun _ => true) true Tryd.f7.params.toList args.toList ds p := hA0
  rw [Tryd.params7] at hA hval
  obtain ⟨v0, vs0, d0, ds0, p0, q0, hargs0, rfl, rfl, h0, r0⟩ := trodAll_cons hA
  obtain ⟨v1, vs1, d1, ds1, p1, q1, hargs1, rfl, rfl, h1, r1⟩ := trodAll_cons r0
  obtain ⟨rfl, rfl, rfl⟩ := trodAll_nil r1
  obtain rfl : args = #[v0, v1] := by cases args; simp_all
  obtain ⟨sa, hv, hs⟩ := DR.of_laid hL
  obtain ⟨rfl, rfl⟩ := DataW.TrodVars.unique hV (DR.vars_read enc hv _)
  obtain ⟨a0, len0, cap0, rfl⟩ := okWide_slice Tryd.underlying22 (hval 0 22 v0 rfl rfl)
  have k0 := h0
  have lt0 : ∀ x ∈ p0, x.block < W.heap.size := by obtain ⟨m, hm⟩ := k0; exact DataW.trod_lt m _ _ _ hm
  obtain ⟨z0, w0⟩ : ∃ zs, IsRow .u8 W a0 len0 cap0 zs := by
    obtain ⟨fuel, hf⟩ := h0
    rcases open_ints Tryd.underlying22 Tryd.underlying5 (by kernel_rfl) hf with ⟨hcs, _⟩ | ⟨x, l, c, zs, hcs, _, hl, hm, hz, _, hcell, hwz⟩
    · simp [Value.cells] at hcs
      obtain ⟨rfl, rfl, rfl⟩ := hcs
      exact ⟨[], .inl ⟨rfl, rfl, rfl, rfl⟩⟩
    · simp [Value.cells] at hcs
      obtain ⟨rfl, rfl, rfl⟩ := hcs
      exact ⟨zs, .inr ⟨_, rfl, hl, hm, by simpa using hz, hcell, hwz⟩⟩
  obtain ⟨a1, len1, cap1, rfl⟩ := okWide_slice Tryd.underlying22 (hval 1 22 v1 rfl rfl)
  have k1 := h1
  have lt1 : ∀ x ∈ p1, x.block < W.heap.size := by obtain ⟨m, hm⟩ := k1; exact DataW.trod_lt m _ _ _ hm
  obtain ⟨z1, w1⟩ : ∃ zs, IsRow .u8 W a1 len1 cap1 zs := by
    obtain ⟨fuel, hf⟩ := h1
    rcases open_ints Tryd.underlying22 Tryd.underlying5 (by kernel_rfl) hf with ⟨hcs, _⟩ | ⟨x, l, c, zs, hcs, _, hl, hm, hz, _, hcell, hwz⟩
    · simp [Value.cells] at hcs
      obtain ⟨rfl, rfl, rfl⟩ := hcs
      exact ⟨[], .inl ⟨rfl, rfl, rfl, rfl⟩⟩
    · simp [Value.cells] at hcs
      obtain ⟨rfl, rfl, rfl⟩ := hcs
      exact ⟨zs, .inr ⟨_, rfl, hl, hm, by simpa using hz, hcell, hwz⟩⟩
  clear hA0 hval0
  refine (walk a0 len0 cap0 z0 a1 len1 cap1 z1 sa W w0 w1 hs).mono fun e W' ⟨he, bel⟩ => ?_
  subst he
  exact ⟨_, rfl, _, _, _, [], _, [.cell 0 0], hW', trodAll_mk1 (shut_bool Tryd.underlying4 _), (trodAll_cons_mk (Below.trod laidOut (by kernel_rfl) (of_decide_eq_true (by kernel_rfl)) k0 bel lt0) (trodAll_cons_mk (Below.trod laidOut (by kernel_rfl) (of_decide_eq_true (by kernel_rfl)) k1 bel lt1) trodAll_mk0)), DR.vars_read enc (DR.var_below hv bel) _, bel.frame _, fun h => by cases h⟩

theorem said : Rows.FnSpotDistThreeSaid :=
  OpenClaim.holds_of_wide 7 Tryd.f7 rfl rfl rfl rfl rfl rfl rfl ⟨rfl, rfl, rfl, rfl, rfl⟩ rfl rfl rfl rfl rfl (by kernel_rfl) Tryd.func7 (by kernel_rfl)
    (of_decide_eq_true (by kernel_rfl)) (by unfold Func.isWrapper; first | (rw [if_pos (by decide +kernel)]; kernel_rfl) | (rw [if_neg (by decide +kernel)]; exact ⟨rfl, rfl⟩))
    (fun os started H enc _ => lifted os started H enc)

theorem plain (f : FuncId) (fn : Func) (hf : Tryd.pinned.checked.prog.funcNamed "loop.example/alidade/laws.FnSpotDistThree" = some f) (hfn : Tryd.pinned.checked.prog.funcs[f]? = some fn) :
    true = Tryd.pinned.checked.prog.looks [] ∧ ∀ (j : Nat) t, fn.params[j]? = some t → Tryd.pinned.checked.prog.wantsStandIn t = false := by
  obtain rfl : f = 7 := Option.some.inj ((show Tryd.prog.funcNamed "loop.example/alidade/laws.FnSpotDistThree" = some 7 by kernel_rfl).symm.trans hf) |>.symm
  obtain rfl : fn = Tryd.f7 := (Option.some.inj (Tryd.func7.symm.trans hfn)).symm
  refine ⟨by kernel_rfl, fun j t ht => ?_⟩
  rw [Tryd.params7] at ht
  have hm : t ∈ [22, 22] := by
    have := Array.mem_of_getElem? ht
    simpa using this
  have hall : ([22, 22].all fun u => !Tryd.prog.wantsStandIn u) = true := by kernel_rfl
  exact (show Tryd.prog.wantsStandIn t = false by simpa using List.all_eq_true.1 hall t hm)

theorem card : Rows.FnSpotDistThreeCardSaid :=
  Claim7.holds_tied_plain_at .later [] _ _ _ _ said (fun _ h => by cases h) (by kernel_rfl) (fun _ h => by cases h) fnSpotDistThree_row_tie rfl ⟨rfl, rfl⟩ (by kernel_rfl) rfl plain (by kernel_rfl)
end Go.Proofs.YtfdkpcejjcifgamDoor.fnSpotDistThree
namespace Go.Proofs.YtfdkpcejjcifgamDoor
theorem fnSpotDistThree_holds : Rows.FnSpotDistThreeCardSaid := fnSpotDistThree.card
#print axioms fnSpotDistThree_holds
end Go.Proofs.YtfdkpcejjcifgamDoor
