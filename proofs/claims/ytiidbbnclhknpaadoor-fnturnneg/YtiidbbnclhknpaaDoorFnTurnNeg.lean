/-
  For every code of bytes the law of TurnBy returns true: of a drawn way and a drawn angle the program's TurnBy is the specification's, the way back turned is turned back, and a whole turn more changes nothing. The package's variable errTooGreat is as the program's text lays it.
-/
import Derived.Test.YtiidbbnclhknpaaDoorCards
import Derived.Test.YtiidbbnclhknpaaDoorTie
import Derived.Test.YtiidbbnclhknpaaDoorDoorKit
import Derived.WalkKit
import Derived.ProofKit
import Derived.OpenShut
import Derived.ShutString
import Derived.ChangeOld
import Derived.Below
import Derived.LaidMore
import Derived.Stop.Joined
import Derived.SevenTiedAt
import Derived.Test.YtiidbbnclhknpaaDoorTurnImpl
import Derived.Test.YtiidbbnclhknpaaDoorDrawTurn
import Derived.Test.YtiidbbnclhknpaaDoorDoorKit
import Derived.Test.YtiidbbnclhknpaaDoorKeptStep
import Derived.Test.YtiidbbnclhknpaaDoorSpanWalks2
namespace Go.Proofs.YtiidbbnclhknpaaDoor.fnTurnNeg
open Go.ChangeShapes Go.WideShapes Go.ChangeAt Go.RowKit Go.Sort
set_option linter.unusedVariables false

theorem own : ownKnob Tryd.prog.godebug = none := by kernel_rfl
theorem laidOut : laidOutB Tryd.prog = true := by kernel_rfl
/-- What the walk is told of a slice of bytes that came in. -/
def IsRow (k : IntKind) (w : World) (a : Option Addr) (len cap : Nat) (zs : List Int) : Prop :=
  (a = none ∧ len = 0 ∧ cap = 0 ∧ zs = []) ∨
  ∃ x, a = some x ∧ len ≤ cap ∧ cap ≤ maxLen ∧ zs.length = cap ∧ (∀ i, i < zs.length → w.cell? (x.add i) = some (.int k (zs.getD i 0))) ∧ ∀ n ∈ zs, (Lit.int k n).wf = true
theorem add_none (b off i : Nat) : (⟨b, off, none⟩ : Addr).add i = ⟨b, off + i, none⟩ := by
  unfold Addr.add
  split
  · rename_i h
    subst h
    rfl
  · rfl
theorem src {w : World} {a : Option Addr} {len cap : Nat} {zs : List Int} (h : IsRow .u8 w a len cap zs) : DK.Src w a len cap := by
  rcases h with ⟨rfl, rfl, rfl, rfl⟩ | ⟨x, rfl, hl, hm, hz, hcell, hwz⟩
  · exact ⟨by omega, by omega, .inl rfl⟩
  · unfold maxLen at hm
    refine ⟨hl, by omega, ?_⟩
    by_cases h0 : len = 0
    · exact .inl h0
    · obtain ⟨b, off, spot⟩ := x
      have hc := hcell 0 (by omega)
      have hspot : spot = none := by simpa [Addr.add] using World.cell?_spot hc
      subst hspot
      refine .inr ⟨b, off, rfl, fun i hi => ?_⟩
      have hi2 : i < zs.length := by omega
      have hb := bounds_u8 (hwz (zs.getD i 0) (by simp [List.getD, hi2]))
      have hci := hcell i hi2
      rw [add_none] at hci
      exact ⟨zs.getD i 0, hb.1, hb.2, hci⟩

open Go.RowKit Go.Sort
set_option maxHeartbeats 8000000 in

set_option maxHeartbeats 8000000 in
theorem walk (a0 : Option Addr) (len0 cap0 : Nat) (z0 : List Int) (sa : Addr) (w : World) (w0 : IsRow .u8 w a0 len0 cap0 z0) (hs : SW.Sn sa w) :
    Calls Tryd.prog 4 #[.slice a0 len0 cap0] w fun e w' => e = .returned (.bool true) ∧ Below w.heap.size w w' := by
  by_cases hl : (len0 : Int) ≤ 1048576
  · go_enter Tryd.func4, Tryd.ntmps4
    go_wp2_with fail
    refine (DW.drawTurnBy_any _ _ _ _ (src w0)).mono ?_
    rintro e v1 ⟨u, r, a, rfl, u0, u1, r0, r1, a0, a1, Bx⟩
    have B := Bx
    replace hs := hs.kept Bx
    clear Bx
    cases hx : SK.trB u r a
    · have F1 : ∀ w, Calls Tryd.prog 6 #[.int .i64 (u), .int .i64 (r), .int .i64 (a)] w fun e w' => e = .returned (.tuple #[SK.spV (0) (0), SK.spV (0) (0), .bool false]) ∧ Below w.heap.size w w' := fun w => by have := SK.sTurnBy_any (u) (r) (a) w; rw [hx] at this; simp only [SM.sel] at this; exact this
      have F2 : ∀ w, Calls Tryd.prog 7 #[.int .i64 (u), .int .i64 (r), .int .i64 (a)] w fun e w' => e = .returned (.tuple #[SK.spV (0) (0), SK.spV (0) (0), .bool false]) ∧ Below w.heap.size w w' := fun w => by have := SK.turnBy_any (u) (r) (a) w; rw [hx] at this; simp only [SM.sel] at this; exact this
      clear hx
      go_wp2_with fail
      refine (F1 _).mono ?_
      rintro e v2 ⟨rfl, Bx⟩
      replace B := SK.below1 B Bx
      replace hs := hs.kept Bx
      clear Bx
      have S1 := SK.Box.new v2 (0) (0) 26
      replace B := SK.below1 B (SK.below_new v2 (.cells #[.int .i64 (0), .int .i64 (0)] 26))
      replace hs := hs.alloc (.cells #[.int .i64 (0), .int .i64 (0)] 26)
      replace S1 := S1.alloc (.cells #[.int .i64 (0), .int .i64 (0)] 26)
      have S2 : SK.Box ((v2.alloc (.cells #[.int .i64 (0), .int .i64 (0)] 26)).alloc (.cells #[.int .i64 (0), .int .i64 (0)] 26)) (v2.heap.size + 1) (0) (0) := by simpa using SK.Box.new (v2.alloc (.cells #[.int .i64 (0), .int .i64 (0)] 26)) (0) (0) 26
      replace B := SK.below1 B (SK.below_new (v2.alloc (.cells #[.int .i64 (0), .int .i64 (0)] 26)) (.cells #[.int .i64 (0), .int .i64 (0)] 26))
      replace hs := hs.alloc (.cells #[.int .i64 (0), .int .i64 (0)] 26)
      have ⟨S1c0, S1c1, S1f0, S1f1⟩ := S1
      have ⟨S2c0, S2c1, S2f0, S2f1⟩ := S2
      go_wp2_with fail
      refine (F2 _).mono ?_
      rintro e v3 ⟨rfl, Bx⟩
      clear S1c0 S1c1 S1f0 S1f1 S2c0 S2c1 S2f0 S2f1
      replace S1 := S1.kept Bx
      replace S2 := S2.kept Bx
      replace B := SK.below1 B Bx
      replace hs := hs.kept Bx
      clear Bx
      replace S1 := S1.alloc (.cells #[.int .i64 (0), .int .i64 (0)] 26)
      replace S2 := S2.alloc (.cells #[.int .i64 (0), .int .i64 (0)] 26)
      have S3 := SK.Box.new v3 (0) (0) 26
      replace B := SK.below1 B (SK.below_new v3 (.cells #[.int .i64 (0), .int .i64 (0)] 26))
      replace hs := hs.alloc (.cells #[.int .i64 (0), .int .i64 (0)] 26)
      replace S1 := S1.alloc (.cells #[.int .i64 (0), .int .i64 (0)] 26)
      replace S2 := S2.alloc (.cells #[.int .i64 (0), .int .i64 (0)] 26)
      replace S3 := S3.alloc (.cells #[.int .i64 (0), .int .i64 (0)] 26)
      have S4 : SK.Box ((v3.alloc (.cells #[.int .i64 (0), .int .i64 (0)] 26)).alloc (.cells #[.int .i64 (0), .int .i64 (0)] 26)) (v3.heap.size + 1) (0) (0) := by simpa using SK.Box.new (v3.alloc (.cells #[.int .i64 (0), .int .i64 (0)] 26)) (0) (0) 26
      replace B := SK.below1 B (SK.below_new (v3.alloc (.cells #[.int .i64 (0), .int .i64 (0)] 26)) (.cells #[.int .i64 (0), .int .i64 (0)] 26))
      replace hs := hs.alloc (.cells #[.int .i64 (0), .int .i64 (0)] 26)
      have ⟨S1c0, S1c1, S1f0, S1f1⟩ := S1
      have ⟨S2c0, S2c1, S2f0, S2f1⟩ := S2
      have ⟨S3c0, S3c1, S3f0, S3f1⟩ := S3
      have ⟨S4c0, S4c1, S4f0, S4f1⟩ := S4
      go_wp2
      go_ret
      exact ⟨rfl, B⟩
    · cases hz : SK.trB u r (a + 129600000)
      · obtain ⟨hw, ha⟩ := SK.tr_of hx
        obtain ⟨⟨a0, a1⟩, a2, a3⟩ := SW.wayB_of hw
        obtain ⟨a4, a5⟩ := SK.okA_of ha
        have hy : SK.trB (-u) (-r) a = true := SK.tr_mk (SW.wayB_mk ⟨⟨by omega, by omega⟩, by omega, by omega⟩) ha
        obtain ⟨n1, n2⟩ := SI.ty_neg u r a
        obtain ⟨n3, n4⟩ := SI.tx_neg u r a
        obtain ⟨m1, m2, m3, m4⟩ := SI.ty_turn u r a
        have F1 : ∀ w, Calls Tryd.prog 6 #[.int .i64 (u), .int .i64 (r), .int .i64 (a)] w fun e w' => e = .returned (.tuple #[SK.spV (SI.tyL u r a) (SI.tyH u r a), SK.spV (SI.txL u r a) (SI.txH u r a), .bool true]) ∧ Below w.heap.size w w' := fun w => by have := SK.sTurnBy_any (u) (r) (a) w; rw [hx] at this; simp only [SM.sel] at this; exact this
        have F2 : ∀ w, Calls Tryd.prog 7 #[.int .i64 (u), .int .i64 (r), .int .i64 (a)] w fun e w' => e = .returned (.tuple #[SK.spV (SI.tyL u r a) (SI.tyH u r a), SK.spV (SI.txL u r a) (SI.txH u r a), .bool true]) ∧ Below w.heap.size w w' := fun w => by have := SK.turnBy_any (u) (r) (a) w; rw [hx] at this; simp only [SM.sel] at this; exact this
        have F3 : ∀ w, Calls Tryd.prog 7 #[.int .i64 (-u), .int .i64 (-r), .int .i64 (a)] w fun e w' => e = .returned (.tuple #[SK.spV (-(SI.tyH u r a)) (-(SI.tyL u r a)), SK.spV (-(SI.txH u r a)) (-(SI.txL u r a)), .bool true]) ∧ Below w.heap.size w w' := fun w => by have := SK.turnBy_any (-u) (-r) (a) w; rw [hy] at this; simp only [SM.sel] at this; rw [n1, n2, n3, n4] at this; exact this
        have F4 : ∀ w, Calls Tryd.prog 7 #[.int .i64 (u), .int .i64 (r), .int .i64 (a + 129600000)] w fun e w' => e = .returned (.tuple #[SK.spV (0) (0), SK.spV (0) (0), .bool false]) ∧ Below w.heap.size w w' := fun w => by have := SK.turnBy_any (u) (r) (a + 129600000) w; rw [hz] at this; simp only [SM.sel] at this; exact this
        obtain ⟨⟨b0, b1, b2⟩, b3, b4, b5⟩ := SI.turn_bd a a0 a1 a2 a3
        have okY : SM.okS (SI.tyL u r a) (SI.tyH u r a) = true := SM.okS_mk (by omega)
        have okX : SM.okS (SI.txL u r a) (SI.txH u r a) = true := SM.okS_mk (by omega)
        clear n1 n2 n3 n4 m1 m2 m3 m4 hx hy hz hw ha
        generalize SI.tyL u r a = p at *
        generalize SI.tyH u r a = q at *
        generalize SI.txL u r a = g at *
        generalize SI.txH u r a = h at *
        go_wp2_with fail
        refine (F1 _).mono ?_
        rintro e v2 ⟨rfl, Bx⟩
        replace B := SK.below1 B Bx
        replace hs := hs.kept Bx
        clear Bx
        have S1 := SK.Box.new v2 (p) (q) 26
        replace B := SK.below1 B (SK.below_new v2 (.cells #[.int .i64 (p), .int .i64 (q)] 26))
        replace hs := hs.alloc (.cells #[.int .i64 (p), .int .i64 (q)] 26)
        replace S1 := S1.alloc (.cells #[.int .i64 (g), .int .i64 (h)] 26)
        have S2 : SK.Box ((v2.alloc (.cells #[.int .i64 (p), .int .i64 (q)] 26)).alloc (.cells #[.int .i64 (g), .int .i64 (h)] 26)) (v2.heap.size + 1) (g) (h) := by simpa using SK.Box.new (v2.alloc (.cells #[.int .i64 (p), .int .i64 (q)] 26)) (g) (h) 26
        replace B := SK.below1 B (SK.below_new (v2.alloc (.cells #[.int .i64 (p), .int .i64 (q)] 26)) (.cells #[.int .i64 (g), .int .i64 (h)] 26))
        replace hs := hs.alloc (.cells #[.int .i64 (g), .int .i64 (h)] 26)
        have ⟨S1c0, S1c1, S1f0, S1f1⟩ := S1
        have ⟨S2c0, S2c1, S2f0, S2f1⟩ := S2
        go_wp2_with fail
        refine (F2 _).mono ?_
        rintro e v3 ⟨rfl, Bx⟩
        clear S1c0 S1c1 S1f0 S1f1 S2c0 S2c1 S2f0 S2f1
        replace S1 := S1.kept Bx
        replace S2 := S2.kept Bx
        replace B := SK.below1 B Bx
        replace hs := hs.kept Bx
        clear Bx
        replace S1 := S1.alloc (.cells #[.int .i64 (p), .int .i64 (q)] 26)
        replace S2 := S2.alloc (.cells #[.int .i64 (p), .int .i64 (q)] 26)
        have S3 := SK.Box.new v3 (p) (q) 26
        replace B := SK.below1 B (SK.below_new v3 (.cells #[.int .i64 (p), .int .i64 (q)] 26))
        replace hs := hs.alloc (.cells #[.int .i64 (p), .int .i64 (q)] 26)
        replace S1 := S1.alloc (.cells #[.int .i64 (g), .int .i64 (h)] 26)
        replace S2 := S2.alloc (.cells #[.int .i64 (g), .int .i64 (h)] 26)
        replace S3 := S3.alloc (.cells #[.int .i64 (g), .int .i64 (h)] 26)
        have S4 : SK.Box ((v3.alloc (.cells #[.int .i64 (p), .int .i64 (q)] 26)).alloc (.cells #[.int .i64 (g), .int .i64 (h)] 26)) (v3.heap.size + 1) (g) (h) := by simpa using SK.Box.new (v3.alloc (.cells #[.int .i64 (p), .int .i64 (q)] 26)) (g) (h) 26
        replace B := SK.below1 B (SK.below_new (v3.alloc (.cells #[.int .i64 (p), .int .i64 (q)] 26)) (.cells #[.int .i64 (g), .int .i64 (h)] 26))
        replace hs := hs.alloc (.cells #[.int .i64 (g), .int .i64 (h)] 26)
        have ⟨S1c0, S1c1, S1f0, S1f1⟩ := S1
        have ⟨S2c0, S2c1, S2f0, S2f1⟩ := S2
        have ⟨S3c0, S3c1, S3f0, S3f1⟩ := S3
        have ⟨S4c0, S4c1, S4f0, S4f1⟩ := S4
        go_wp2_with fail
        refine (F3 _).mono ?_
        rintro e v4 ⟨rfl, Bx⟩
        clear S1c0 S1c1 S1f0 S1f1 S2c0 S2c1 S2f0 S2f1 S3c0 S3c1 S3f0 S3f1 S4c0 S4c1 S4f0 S4f1
        replace S1 := S1.kept Bx
        replace S2 := S2.kept Bx
        replace S3 := S3.kept Bx
        replace S4 := S4.kept Bx
        replace B := SK.below1 B Bx
        replace hs := hs.kept Bx
        clear Bx
        replace S1 := S1.alloc (.cells #[.int .i64 (-q), .int .i64 (-p)] 26)
        replace S2 := S2.alloc (.cells #[.int .i64 (-q), .int .i64 (-p)] 26)
        replace S3 := S3.alloc (.cells #[.int .i64 (-q), .int .i64 (-p)] 26)
        replace S4 := S4.alloc (.cells #[.int .i64 (-q), .int .i64 (-p)] 26)
        have S5 := SK.Box.new v4 (-q) (-p) 26
        replace B := SK.below1 B (SK.below_new v4 (.cells #[.int .i64 (-q), .int .i64 (-p)] 26))
        replace hs := hs.alloc (.cells #[.int .i64 (-q), .int .i64 (-p)] 26)
        replace S1 := S1.alloc (.cells #[.int .i64 (-h), .int .i64 (-g)] 26)
        replace S2 := S2.alloc (.cells #[.int .i64 (-h), .int .i64 (-g)] 26)
        replace S3 := S3.alloc (.cells #[.int .i64 (-h), .int .i64 (-g)] 26)
        replace S4 := S4.alloc (.cells #[.int .i64 (-h), .int .i64 (-g)] 26)
        replace S5 := S5.alloc (.cells #[.int .i64 (-h), .int .i64 (-g)] 26)
        have S6 : SK.Box ((v4.alloc (.cells #[.int .i64 (-q), .int .i64 (-p)] 26)).alloc (.cells #[.int .i64 (-h), .int .i64 (-g)] 26)) (v4.heap.size + 1) (-h) (-g) := by simpa using SK.Box.new (v4.alloc (.cells #[.int .i64 (-q), .int .i64 (-p)] 26)) (-h) (-g) 26
        replace B := SK.below1 B (SK.below_new (v4.alloc (.cells #[.int .i64 (-q), .int .i64 (-p)] 26)) (.cells #[.int .i64 (-h), .int .i64 (-g)] 26))
        replace hs := hs.alloc (.cells #[.int .i64 (-h), .int .i64 (-g)] 26)
        have ⟨S1c0, S1c1, S1f0, S1f1⟩ := S1
        have ⟨S2c0, S2c1, S2f0, S2f1⟩ := S2
        have ⟨S3c0, S3c1, S3f0, S3f1⟩ := S3
        have ⟨S4c0, S4c1, S4f0, S4f1⟩ := S4
        have ⟨S5c0, S5c1, S5f0, S5f1⟩ := S5
        have ⟨S6c0, S6c1, S6f0, S6f1⟩ := S6
        go_wp2_with fail
        refine (F4 _).mono ?_
        rintro e v5 ⟨rfl, Bx⟩
        clear S1c0 S1c1 S1f0 S1f1 S2c0 S2c1 S2f0 S2f1 S3c0 S3c1 S3f0 S3f1 S4c0 S4c1 S4f0 S4f1 S5c0 S5c1 S5f0 S5f1 S6c0 S6c1 S6f0 S6f1
        replace S1 := S1.kept Bx
        replace S2 := S2.kept Bx
        replace S3 := S3.kept Bx
        replace S4 := S4.kept Bx
        replace S5 := S5.kept Bx
        replace S6 := S6.kept Bx
        replace B := SK.below1 B Bx
        replace hs := hs.kept Bx
        clear Bx
        replace S1 := S1.alloc (.cells #[.int .i64 (0), .int .i64 (0)] 26)
        replace S2 := S2.alloc (.cells #[.int .i64 (0), .int .i64 (0)] 26)
        replace S3 := S3.alloc (.cells #[.int .i64 (0), .int .i64 (0)] 26)
        replace S4 := S4.alloc (.cells #[.int .i64 (0), .int .i64 (0)] 26)
        replace S5 := S5.alloc (.cells #[.int .i64 (0), .int .i64 (0)] 26)
        replace S6 := S6.alloc (.cells #[.int .i64 (0), .int .i64 (0)] 26)
        have S7 := SK.Box.new v5 (0) (0) 26
        replace B := SK.below1 B (SK.below_new v5 (.cells #[.int .i64 (0), .int .i64 (0)] 26))
        replace hs := hs.alloc (.cells #[.int .i64 (0), .int .i64 (0)] 26)
        replace S1 := S1.alloc (.cells #[.int .i64 (0), .int .i64 (0)] 26)
        replace S2 := S2.alloc (.cells #[.int .i64 (0), .int .i64 (0)] 26)
        replace S3 := S3.alloc (.cells #[.int .i64 (0), .int .i64 (0)] 26)
        replace S4 := S4.alloc (.cells #[.int .i64 (0), .int .i64 (0)] 26)
        replace S5 := S5.alloc (.cells #[.int .i64 (0), .int .i64 (0)] 26)
        replace S6 := S6.alloc (.cells #[.int .i64 (0), .int .i64 (0)] 26)
        replace S7 := S7.alloc (.cells #[.int .i64 (0), .int .i64 (0)] 26)
        have S8 : SK.Box ((v5.alloc (.cells #[.int .i64 (0), .int .i64 (0)] 26)).alloc (.cells #[.int .i64 (0), .int .i64 (0)] 26)) (v5.heap.size + 1) (0) (0) := by simpa using SK.Box.new (v5.alloc (.cells #[.int .i64 (0), .int .i64 (0)] 26)) (0) (0) 26
        replace B := SK.below1 B (SK.below_new (v5.alloc (.cells #[.int .i64 (0), .int .i64 (0)] 26)) (.cells #[.int .i64 (0), .int .i64 (0)] 26))
        replace hs := hs.alloc (.cells #[.int .i64 (0), .int .i64 (0)] 26)
        have ⟨S1c0, S1c1, S1f0, S1f1⟩ := S1
        have ⟨S2c0, S2c1, S2f0, S2f1⟩ := S2
        have ⟨S3c0, S3c1, S3f0, S3f1⟩ := S3
        have ⟨S4c0, S4c1, S4f0, S4f1⟩ := S4
        have ⟨S5c0, S5c1, S5f0, S5f1⟩ := S5
        have ⟨S6c0, S6c1, S6f0, S6f1⟩ := S6
        have ⟨S7c0, S7c1, S7f0, S7f1⟩ := S7
        have ⟨S8c0, S8c1, S8f0, S8f1⟩ := S8
        go_wp2_with fail
        clear S1c0 S1c1 S1f0 S1f1 S2c0 S2c1 S2f0 S2f1 S3c0 S3c1 S3f0 S3f1 S4c0 S4c1 S4f0 S4f1 S5c0 S5c1 S5f0 S5f1 S6c0 S6c1 S6f0 S6f1 S7c0 S7c1 S7f0 S7f1 S8c0 S8c1 S8f0 S8f1
        generalize ((v5.alloc (.cells #[.int .i64 (0), .int .i64 (0)] 26)).alloc (.cells #[.int .i64 (0), .int .i64 (0)] 26)) = wz at *
        have S1k0 := cell_regrown S1.c0
        have S1k1 := cell_regrown S1.c1
        have S2k0 := cell_regrown S2.c0
        have S2k1 := cell_regrown S2.c1
        have S3k0 := cell_regrown S3.c0
        have S3k1 := cell_regrown S3.c1
        have S4k0 := cell_regrown S4.c0
        have S4k1 := cell_regrown S4.c1
        have S5k0 := cell_regrown S5.c0
        have S5k1 := cell_regrown S5.c1
        have S6k0 := cell_regrown S6.c0
        have S6k1 := cell_regrown S6.c1
        have S7k0 := cell_regrown S7.c0
        have S7k1 := cell_regrown S7.c1
        have S8k0 := cell_regrown S8.c0
        have S8k1 := cell_regrown S8.c1
        have c1 : ∀ d os, Calls Tryd.prog 11 #[SK.spV p q] (grow (redrawn wz d) os) fun e w'' => e = .returned (SK.spV (-q) (-p)) ∧ ∃ p : Regrown, w'' = grow (redrawn wz p.d) p.os := fun d os => Calls.regrown_of (by have := SW.spanNeg_any p q sa _ (hs.kept (below_regrown wz d os)); rw [okY] at this; exact this)
        have c2 : ∀ d os, Calls Tryd.prog 11 #[SK.spV g h] (grow (redrawn wz d) os) fun e w'' => e = .returned (SK.spV (-h) (-g)) ∧ ∃ p : Regrown, w'' = grow (redrawn wz p.d) p.os := fun d os => Calls.regrown_of (by have := SW.spanNeg_any g h sa _ (hs.kept (below_regrown wz d os)); rw [okX] at this; exact this)
        refine KS.region (by kernel_rfl) (by kernel_rfl) ?_
        repeat (refine KS.step (fun K hK => ?_); go_simp; refine hK _ ?_; clear hK K)
        refine KS.step (fun K hK => ?_)
        go_simp
        apply Exists.intro
        refine ⟨fun _ => ?_, hK _ ?_⟩
        exact c1 _ _
        clear hK K
        repeat (refine KS.step (fun K hK => ?_); go_simp; refine hK _ ?_; clear hK K)
        refine KS.step (fun K hK => ?_)
        go_simp
        apply Exists.intro
        refine ⟨fun _ => ?_, hK _ ?_⟩
        exact c2 _ _
        clear hK K
        repeat (refine KS.step (fun K hK => ?_); go_simp; refine hK _ ?_; clear hK K)
        refine KS.nil ?_
        rintro _ ⟨p, rfl⟩
        go_wp2
        go_ret
        exact ⟨rfl, SK.below1 B (below_regrown _ _ _)⟩
      · obtain ⟨hw, ha⟩ := SK.tr_of hx
        obtain ⟨⟨a0, a1⟩, a2, a3⟩ := SW.wayB_of hw
        obtain ⟨a4, a5⟩ := SK.okA_of ha
        have hy : SK.trB (-u) (-r) a = true := SK.tr_mk (SW.wayB_mk ⟨⟨by omega, by omega⟩, by omega, by omega⟩) ha
        obtain ⟨n1, n2⟩ := SI.ty_neg u r a
        obtain ⟨n3, n4⟩ := SI.tx_neg u r a
        obtain ⟨m1, m2, m3, m4⟩ := SI.ty_turn u r a
        have F1 : ∀ w, Calls Tryd.prog 6 #[.int .i64 (u), .int .i64 (r), .int .i64 (a)] w fun e w' => e = .returned (.tuple #[SK.spV (SI.tyL u r a) (SI.tyH u r a), SK.spV (SI.txL u r a) (SI.txH u r a), .bool true]) ∧ Below w.heap.size w w' := fun w => by have := SK.sTurnBy_any (u) (r) (a) w; rw [hx] at this; simp only [SM.sel] at this; exact this
        have F2 : ∀ w, Calls Tryd.prog 7 #[.int .i64 (u), .int .i64 (r), .int .i64 (a)] w fun e w' => e = .returned (.tuple #[SK.spV (SI.tyL u r a) (SI.tyH u r a), SK.spV (SI.txL u r a) (SI.txH u r a), .bool true]) ∧ Below w.heap.size w w' := fun w => by have := SK.turnBy_any (u) (r) (a) w; rw [hx] at this; simp only [SM.sel] at this; exact this
        have F3 : ∀ w, Calls Tryd.prog 7 #[.int .i64 (-u), .int .i64 (-r), .int .i64 (a)] w fun e w' => e = .returned (.tuple #[SK.spV (-(SI.tyH u r a)) (-(SI.tyL u r a)), SK.spV (-(SI.txH u r a)) (-(SI.txL u r a)), .bool true]) ∧ Below w.heap.size w w' := fun w => by have := SK.turnBy_any (-u) (-r) (a) w; rw [hy] at this; simp only [SM.sel] at this; rw [n1, n2, n3, n4] at this; exact this
        have F4 : ∀ w, Calls Tryd.prog 7 #[.int .i64 (u), .int .i64 (r), .int .i64 (a + 129600000)] w fun e w' => e = .returned (.tuple #[SK.spV (SI.tyL u r a) (SI.tyH u r a), SK.spV (SI.txL u r a) (SI.txH u r a), .bool true]) ∧ Below w.heap.size w w' := fun w => by have := SK.turnBy_any (u) (r) (a + 129600000) w; rw [hz] at this; simp only [SM.sel] at this; rw [m1, m2, m3, m4] at this; exact this
        obtain ⟨⟨b0, b1, b2⟩, b3, b4, b5⟩ := SI.turn_bd a a0 a1 a2 a3
        have okY : SM.okS (SI.tyL u r a) (SI.tyH u r a) = true := SM.okS_mk (by omega)
        have okX : SM.okS (SI.txL u r a) (SI.txH u r a) = true := SM.okS_mk (by omega)
        clear n1 n2 n3 n4 m1 m2 m3 m4 hx hy hz hw ha
        generalize SI.tyL u r a = p at *
        generalize SI.tyH u r a = q at *
        generalize SI.txL u r a = g at *
        generalize SI.txH u r a = h at *
        go_wp2_with fail
        refine (F1 _).mono ?_
        rintro e v2 ⟨rfl, Bx⟩
        replace B := SK.below1 B Bx
        replace hs := hs.kept Bx
        clear Bx
        have S1 := SK.Box.new v2 (p) (q) 26
        replace B := SK.below1 B (SK.below_new v2 (.cells #[.int .i64 (p), .int .i64 (q)] 26))
        replace hs := hs.alloc (.cells #[.int .i64 (p), .int .i64 (q)] 26)
        replace S1 := S1.alloc (.cells #[.int .i64 (g), .int .i64 (h)] 26)
        have S2 : SK.Box ((v2.alloc (.cells #[.int .i64 (p), .int .i64 (q)] 26)).alloc (.cells #[.int .i64 (g), .int .i64 (h)] 26)) (v2.heap.size + 1) (g) (h) := by simpa using SK.Box.new (v2.alloc (.cells #[.int .i64 (p), .int .i64 (q)] 26)) (g) (h) 26
        replace B := SK.below1 B (SK.below_new (v2.alloc (.cells #[.int .i64 (p), .int .i64 (q)] 26)) (.cells #[.int .i64 (g), .int .i64 (h)] 26))
        replace hs := hs.alloc (.cells #[.int .i64 (g), .int .i64 (h)] 26)
        have ⟨S1c0, S1c1, S1f0, S1f1⟩ := S1
        have ⟨S2c0, S2c1, S2f0, S2f1⟩ := S2
        go_wp2_with fail
        refine (F2 _).mono ?_
        rintro e v3 ⟨rfl, Bx⟩
        clear S1c0 S1c1 S1f0 S1f1 S2c0 S2c1 S2f0 S2f1
        replace S1 := S1.kept Bx
        replace S2 := S2.kept Bx
        replace B := SK.below1 B Bx
        replace hs := hs.kept Bx
        clear Bx
        replace S1 := S1.alloc (.cells #[.int .i64 (p), .int .i64 (q)] 26)
        replace S2 := S2.alloc (.cells #[.int .i64 (p), .int .i64 (q)] 26)
        have S3 := SK.Box.new v3 (p) (q) 26
        replace B := SK.below1 B (SK.below_new v3 (.cells #[.int .i64 (p), .int .i64 (q)] 26))
        replace hs := hs.alloc (.cells #[.int .i64 (p), .int .i64 (q)] 26)
        replace S1 := S1.alloc (.cells #[.int .i64 (g), .int .i64 (h)] 26)
        replace S2 := S2.alloc (.cells #[.int .i64 (g), .int .i64 (h)] 26)
        replace S3 := S3.alloc (.cells #[.int .i64 (g), .int .i64 (h)] 26)
        have S4 : SK.Box ((v3.alloc (.cells #[.int .i64 (p), .int .i64 (q)] 26)).alloc (.cells #[.int .i64 (g), .int .i64 (h)] 26)) (v3.heap.size + 1) (g) (h) := by simpa using SK.Box.new (v3.alloc (.cells #[.int .i64 (p), .int .i64 (q)] 26)) (g) (h) 26
        replace B := SK.below1 B (SK.below_new (v3.alloc (.cells #[.int .i64 (p), .int .i64 (q)] 26)) (.cells #[.int .i64 (g), .int .i64 (h)] 26))
        replace hs := hs.alloc (.cells #[.int .i64 (g), .int .i64 (h)] 26)
        have ⟨S1c0, S1c1, S1f0, S1f1⟩ := S1
        have ⟨S2c0, S2c1, S2f0, S2f1⟩ := S2
        have ⟨S3c0, S3c1, S3f0, S3f1⟩ := S3
        have ⟨S4c0, S4c1, S4f0, S4f1⟩ := S4
        go_wp2_with fail
        refine (F3 _).mono ?_
        rintro e v4 ⟨rfl, Bx⟩
        clear S1c0 S1c1 S1f0 S1f1 S2c0 S2c1 S2f0 S2f1 S3c0 S3c1 S3f0 S3f1 S4c0 S4c1 S4f0 S4f1
        replace S1 := S1.kept Bx
        replace S2 := S2.kept Bx
        replace S3 := S3.kept Bx
        replace S4 := S4.kept Bx
        replace B := SK.below1 B Bx
        replace hs := hs.kept Bx
        clear Bx
        replace S1 := S1.alloc (.cells #[.int .i64 (-q), .int .i64 (-p)] 26)
        replace S2 := S2.alloc (.cells #[.int .i64 (-q), .int .i64 (-p)] 26)
        replace S3 := S3.alloc (.cells #[.int .i64 (-q), .int .i64 (-p)] 26)
        replace S4 := S4.alloc (.cells #[.int .i64 (-q), .int .i64 (-p)] 26)
        have S5 := SK.Box.new v4 (-q) (-p) 26
        replace B := SK.below1 B (SK.below_new v4 (.cells #[.int .i64 (-q), .int .i64 (-p)] 26))
        replace hs := hs.alloc (.cells #[.int .i64 (-q), .int .i64 (-p)] 26)
        replace S1 := S1.alloc (.cells #[.int .i64 (-h), .int .i64 (-g)] 26)
        replace S2 := S2.alloc (.cells #[.int .i64 (-h), .int .i64 (-g)] 26)
        replace S3 := S3.alloc (.cells #[.int .i64 (-h), .int .i64 (-g)] 26)
        replace S4 := S4.alloc (.cells #[.int .i64 (-h), .int .i64 (-g)] 26)
        replace S5 := S5.alloc (.cells #[.int .i64 (-h), .int .i64 (-g)] 26)
        have S6 : SK.Box ((v4.alloc (.cells #[.int .i64 (-q), .int .i64 (-p)] 26)).alloc (.cells #[.int .i64 (-h), .int .i64 (-g)] 26)) (v4.heap.size + 1) (-h) (-g) := by simpa using SK.Box.new (v4.alloc (.cells #[.int .i64 (-q), .int .i64 (-p)] 26)) (-h) (-g) 26
        replace B := SK.below1 B (SK.below_new (v4.alloc (.cells #[.int .i64 (-q), .int .i64 (-p)] 26)) (.cells #[.int .i64 (-h), .int .i64 (-g)] 26))
        replace hs := hs.alloc (.cells #[.int .i64 (-h), .int .i64 (-g)] 26)
        have ⟨S1c0, S1c1, S1f0, S1f1⟩ := S1
        have ⟨S2c0, S2c1, S2f0, S2f1⟩ := S2
        have ⟨S3c0, S3c1, S3f0, S3f1⟩ := S3
        have ⟨S4c0, S4c1, S4f0, S4f1⟩ := S4
        have ⟨S5c0, S5c1, S5f0, S5f1⟩ := S5
        have ⟨S6c0, S6c1, S6f0, S6f1⟩ := S6
        go_wp2_with fail
        refine (F4 _).mono ?_
        rintro e v5 ⟨rfl, Bx⟩
        clear S1c0 S1c1 S1f0 S1f1 S2c0 S2c1 S2f0 S2f1 S3c0 S3c1 S3f0 S3f1 S4c0 S4c1 S4f0 S4f1 S5c0 S5c1 S5f0 S5f1 S6c0 S6c1 S6f0 S6f1
        replace S1 := S1.kept Bx
        replace S2 := S2.kept Bx
        replace S3 := S3.kept Bx
        replace S4 := S4.kept Bx
        replace S5 := S5.kept Bx
        replace S6 := S6.kept Bx
        replace B := SK.below1 B Bx
        replace hs := hs.kept Bx
        clear Bx
        replace S1 := S1.alloc (.cells #[.int .i64 (p), .int .i64 (q)] 26)
        replace S2 := S2.alloc (.cells #[.int .i64 (p), .int .i64 (q)] 26)
        replace S3 := S3.alloc (.cells #[.int .i64 (p), .int .i64 (q)] 26)
        replace S4 := S4.alloc (.cells #[.int .i64 (p), .int .i64 (q)] 26)
        replace S5 := S5.alloc (.cells #[.int .i64 (p), .int .i64 (q)] 26)
        replace S6 := S6.alloc (.cells #[.int .i64 (p), .int .i64 (q)] 26)
        have S7 := SK.Box.new v5 (p) (q) 26
        replace B := SK.below1 B (SK.below_new v5 (.cells #[.int .i64 (p), .int .i64 (q)] 26))
        replace hs := hs.alloc (.cells #[.int .i64 (p), .int .i64 (q)] 26)
        replace S1 := S1.alloc (.cells #[.int .i64 (g), .int .i64 (h)] 26)
        replace S2 := S2.alloc (.cells #[.int .i64 (g), .int .i64 (h)] 26)
        replace S3 := S3.alloc (.cells #[.int .i64 (g), .int .i64 (h)] 26)
        replace S4 := S4.alloc (.cells #[.int .i64 (g), .int .i64 (h)] 26)
        replace S5 := S5.alloc (.cells #[.int .i64 (g), .int .i64 (h)] 26)
        replace S6 := S6.alloc (.cells #[.int .i64 (g), .int .i64 (h)] 26)
        replace S7 := S7.alloc (.cells #[.int .i64 (g), .int .i64 (h)] 26)
        have S8 : SK.Box ((v5.alloc (.cells #[.int .i64 (p), .int .i64 (q)] 26)).alloc (.cells #[.int .i64 (g), .int .i64 (h)] 26)) (v5.heap.size + 1) (g) (h) := by simpa using SK.Box.new (v5.alloc (.cells #[.int .i64 (p), .int .i64 (q)] 26)) (g) (h) 26
        replace B := SK.below1 B (SK.below_new (v5.alloc (.cells #[.int .i64 (p), .int .i64 (q)] 26)) (.cells #[.int .i64 (g), .int .i64 (h)] 26))
        replace hs := hs.alloc (.cells #[.int .i64 (g), .int .i64 (h)] 26)
        have ⟨S1c0, S1c1, S1f0, S1f1⟩ := S1
        have ⟨S2c0, S2c1, S2f0, S2f1⟩ := S2
        have ⟨S3c0, S3c1, S3f0, S3f1⟩ := S3
        have ⟨S4c0, S4c1, S4f0, S4f1⟩ := S4
        have ⟨S5c0, S5c1, S5f0, S5f1⟩ := S5
        have ⟨S6c0, S6c1, S6f0, S6f1⟩ := S6
        have ⟨S7c0, S7c1, S7f0, S7f1⟩ := S7
        have ⟨S8c0, S8c1, S8f0, S8f1⟩ := S8
        go_wp2_with fail
        clear S1c0 S1c1 S1f0 S1f1 S2c0 S2c1 S2f0 S2f1 S3c0 S3c1 S3f0 S3f1 S4c0 S4c1 S4f0 S4f1 S5c0 S5c1 S5f0 S5f1 S6c0 S6c1 S6f0 S6f1 S7c0 S7c1 S7f0 S7f1 S8c0 S8c1 S8f0 S8f1
        generalize ((v5.alloc (.cells #[.int .i64 (p), .int .i64 (q)] 26)).alloc (.cells #[.int .i64 (g), .int .i64 (h)] 26)) = wz at *
        have S1k0 := cell_regrown S1.c0
        have S1k1 := cell_regrown S1.c1
        have S2k0 := cell_regrown S2.c0
        have S2k1 := cell_regrown S2.c1
        have S3k0 := cell_regrown S3.c0
        have S3k1 := cell_regrown S3.c1
        have S4k0 := cell_regrown S4.c0
        have S4k1 := cell_regrown S4.c1
        have S5k0 := cell_regrown S5.c0
        have S5k1 := cell_regrown S5.c1
        have S6k0 := cell_regrown S6.c0
        have S6k1 := cell_regrown S6.c1
        have S7k0 := cell_regrown S7.c0
        have S7k1 := cell_regrown S7.c1
        have S8k0 := cell_regrown S8.c0
        have S8k1 := cell_regrown S8.c1
        have c1 : ∀ d os, Calls Tryd.prog 11 #[SK.spV p q] (grow (redrawn wz d) os) fun e w'' => e = .returned (SK.spV (-q) (-p)) ∧ ∃ p : Regrown, w'' = grow (redrawn wz p.d) p.os := fun d os => Calls.regrown_of (by have := SW.spanNeg_any p q sa _ (hs.kept (below_regrown wz d os)); rw [okY] at this; exact this)
        have c2 : ∀ d os, Calls Tryd.prog 11 #[SK.spV g h] (grow (redrawn wz d) os) fun e w'' => e = .returned (SK.spV (-h) (-g)) ∧ ∃ p : Regrown, w'' = grow (redrawn wz p.d) p.os := fun d os => Calls.regrown_of (by have := SW.spanNeg_any g h sa _ (hs.kept (below_regrown wz d os)); rw [okX] at this; exact this)
        refine KS.region (by kernel_rfl) (by kernel_rfl) ?_
        repeat (refine KS.step (fun K hK => ?_); go_simp; refine hK _ ?_; clear hK K)
        refine KS.step (fun K hK => ?_)
        go_simp
        apply Exists.intro
        refine ⟨fun _ => ?_, hK _ ?_⟩
        exact c1 _ _
        clear hK K
        repeat (refine KS.step (fun K hK => ?_); go_simp; refine hK _ ?_; clear hK K)
        refine KS.step (fun K hK => ?_)
        go_simp
        apply Exists.intro
        refine ⟨fun _ => ?_, hK _ ?_⟩
        exact c2 _ _
        clear hK K
        repeat (refine KS.step (fun K hK => ?_); go_simp; refine hK _ ?_; clear hK K)
        refine KS.nil ?_
        rintro _ ⟨p, rfl⟩
        go_wp2
        go_ret
        exact ⟨rfl, SK.below1 B (below_regrown _ _ _)⟩
  · go_enter Tryd.func4, Tryd.ntmps4
    go_wp2
    go_ret
    exact ⟨rfl, Below.refl _ _⟩

set_option maxRecDepth 100000 in
theorem lifted (os : Os) (started : os.Started) (H : Type) (enc : TypeId × Value → H) :
    ReturnsInHanded {} Tryd.checked os 4 .any (fun w args => (Rows.fnTurnNegSpec.pre enc Tryd.prog Tryd.f4 [] false w args ∧ laidMetH Tryd.prog DR.laid1 w) ∧ sizedMet enc Tryd.prog Tryd.f4 (OpenSpec.ofChange Rows.fnTurnNegSpec) false w args)
      (Rows.fnTurnNegSpec.post enc Tryd.prog Tryd.f4 false true false false) := by
  refine returnsInHanded_of_change_and (C := Tryd.checked) (X := fun w _ => laidMetH Tryd.prog DR.laid1 w) (fun _ _ _ hh h => h.of_heap hh) own started (by kernel_rfl) Tryd.func4
    (ChangeSpec.witness_shaped (enc := enc) (C := Tryd.checked) (os := os) (X := fun w _ => laidMetH Tryd.prog DR.laid1 w) false (World.doorLaid Tryd.prog 400 os) #[.slice none 0 0] 8 rfl (World.shaped_of_RefB (by kernel_rfl) (by kernel_rfl)) (by kernel_rfl) (by kernel_rfl) (by kernel_rfl) (DR.door_met os _)) ?_
  intro W base args ds gs before hval0 hW _ _ hL _
  have hval : ∀ (j : Nat) t v, Tryd.f4.params[j]? = some t → args[j]? = some v → Value.okWide Tryd.prog W .any base t v := hval0
  have hW' := hW
  obtain ⟨p, q, hA0, hV, rfl, hfz, hnd⟩ := hW
  have hA : DataW.TrodAll enc Tryd.prog W 0 (fun _ => true) true Tryd.f4.params.toList args.toList ds p := hA0
  rw [Tryd.params4] at hA hval
  obtain ⟨v0, vs0, d0, ds0, p0, q0, hargs0, rfl, rfl, h0, r0⟩ := trodAll_cons hA
  obtain ⟨rfl, rfl, rfl⟩ := trodAll_nil r0
  obtain rfl : args = #[v0] := by cases args; simp_all
  obtain ⟨sa, hv, hs⟩ := DR.of_laid hL
  obtain ⟨rfl, rfl⟩ := DataW.TrodVars.unique hV (DR.vars_read enc hv _)
  obtain ⟨a0, len0, cap0, rfl⟩ := okWide_slice Tryd.underlying22 (hval 0 22 v0 rfl rfl)
  have k0 := h0
  have lt0 : ∀ x ∈ p0, x.block < W.heap.size := by obtain ⟨m, hm⟩ := k0; exact DataW.trod_lt m _ _ _ hm
  obtain ⟨z0, w0⟩ : ∃ zs, IsRow .u8 W a0 len0 cap0 zs := by
    obtain ⟨fuel, hf⟩ := h0
    rcases open_ints Tryd.underlying22 Tryd.underlying5 (by kernel_rfl) hf with ⟨hcs, _⟩ | ⟨x, l, c, zs, hcs, _, hl, hm, hz, _, hcell, hwz⟩
    · simp [Value.cells] at hcs
      obtain ⟨rfl, rfl, rfl⟩ := hcs
      exact ⟨[], .inl ⟨rfl, rfl, rfl, rfl⟩⟩
    · simp [Value.cells] at hcs
      obtain ⟨rfl, rfl, rfl⟩ := hcs
      exact ⟨zs, .inr ⟨_, rfl, hl, hm, by simpa using hz, hcell, hwz⟩⟩
  clear hA0 hval0
  refine (walk a0 len0 cap0 z0 sa W w0 hs).mono fun e W' ⟨he, bel⟩ => ?_
  subst he
  exact ⟨_, rfl, _, _, _, [], _, [.cell 0 0], hW', trodAll_mk1 (shut_bool Tryd.underlying4 _), (trodAll_cons_mk (Below.trod laidOut (by kernel_rfl) (of_decide_eq_true (by kernel_rfl)) k0 bel lt0) trodAll_mk0), DR.vars_read enc (DR.var_below hv bel) _, bel.frame _, fun h => by cases h⟩

theorem said : Rows.FnTurnNegSaid :=
  OpenClaim.holds_of_wide 4 Tryd.f4 rfl rfl rfl rfl rfl rfl rfl ⟨rfl, rfl, rfl, rfl, rfl⟩ rfl rfl rfl rfl rfl (by kernel_rfl) Tryd.func4 (by kernel_rfl)
    (of_decide_eq_true (by kernel_rfl)) (by unfold Func.isWrapper; first | (rw [if_pos (by decide +kernel)]; kernel_rfl) | (rw [if_neg (by decide +kernel)]; exact ⟨rfl, rfl⟩))
    (fun os started H enc _ => lifted os started H enc)

theorem plain (f : FuncId) (fn : Func) (hf : Tryd.pinned.checked.prog.funcNamed "loop.example/alidade/laws.FnTurnNeg" = some f) (hfn : Tryd.pinned.checked.prog.funcs[f]? = some fn) :
    true = Tryd.pinned.checked.prog.looks [] ∧ ∀ (j : Nat) t, fn.params[j]? = some t → Tryd.pinned.checked.prog.wantsStandIn t = false := by
  obtain rfl : f = 4 := Option.some.inj ((show Tryd.prog.funcNamed "loop.example/alidade/laws.FnTurnNeg" = some 4 by kernel_rfl).symm.trans hf) |>.symm
  obtain rfl : fn = Tryd.f4 := (Option.some.inj (Tryd.func4.symm.trans hfn)).symm
  refine ⟨by kernel_rfl, fun j t ht => ?_⟩
  rw [Tryd.params4] at ht
  have hm : t ∈ [22] := by
    have := Array.mem_of_getElem? ht
    simpa using this
  have hall : ([22].all fun u => !Tryd.prog.wantsStandIn u) = true := by kernel_rfl
  exact (show Tryd.prog.wantsStandIn t = false by simpa using List.all_eq_true.1 hall t hm)

theorem card : Rows.FnTurnNegCardSaid :=
  Claim7.holds_tied_plain_at .later [] _ _ _ _ said (fun _ h => by cases h) (by kernel_rfl) (fun _ h => by cases h) fnTurnNeg_row_tie rfl ⟨rfl, rfl⟩ (by kernel_rfl) rfl plain (by kernel_rfl)
end Go.Proofs.YtiidbbnclhknpaaDoor.fnTurnNeg
namespace Go.Proofs.YtiidbbnclhknpaaDoor
theorem fnTurnNeg_holds : Rows.FnTurnNegCardSaid := fnTurnNeg.card
#print axioms fnTurnNeg_holds
end Go.Proofs.YtiidbbnclhknpaaDoor
