/-
  For every code of bytes the law of SpotSame returns true: of drawn places the program's SpotSame is the specification's, the same either way; a place that is ok is the same as itself; the same places are nothing far apart. The package's variable errTooGreat is as the program's text lays it.
-/
import Derived.Test.YtfdkpcejjcifgalDoorCards
import Derived.Test.YtfdkpcejjcifgalDoorTie
import Derived.Test.YtfdkpcejjcifgalDoorDoorKit
import Derived.WalkKit
import Derived.ProofKit
import Derived.OpenShut
import Derived.ShutString
import Derived.ChangeOld
import Derived.Below
import Derived.LaidMore
import Derived.Stop.Joined
import Derived.SevenTiedAt
import Derived.Test.YtfdkpcejjcifgalDoorSpotMemo3
import Derived.Test.YtfdkpcejjcifgalDoorDrawSpot4
import Derived.Test.YtfdkpcejjcifgalDoorSpotBook
import Derived.Test.YtfdkpcejjcifgalDoorKeptStep
namespace Go.Proofs.YtfdkpcejjcifgalDoor.fnSpotSame
open Go.ChangeShapes Go.WideShapes Go.ChangeAt Go.RowKit Go.Sort
set_option linter.unusedVariables false

theorem own : ownKnob Tryd.prog.godebug = none := by kernel_rfl
theorem laidOut : laidOutB Tryd.prog = true := by kernel_rfl
/-- What the walk is told of a slice of bytes that came in. -/
def IsRow (k : IntKind) (w : World) (a : Option Addr) (len cap : Nat) (zs : List Int) : Prop :=
  (a = none ∧ len = 0 ∧ cap = 0 ∧ zs = []) ∨
  ∃ x, a = some x ∧ len ≤ cap ∧ cap ≤ maxLen ∧ zs.length = cap ∧ (∀ i, i < zs.length → w.cell? (x.add i) = some (.int k (zs.getD i 0))) ∧ ∀ n ∈ zs, (Lit.int k n).wf = true
theorem add_none (b off i : Nat) : (⟨b, off, none⟩ : Addr).add i = ⟨b, off + i, none⟩ := by
  unfold Addr.add
  split
  · rename_i h
    subst h
    rfl
  · rfl
theorem src {w : World} {a : Option Addr} {len cap : Nat} {zs : List Int} (h : IsRow .u8 w a len cap zs) : DK.Src w a len cap := by
  rcases h with ⟨rfl, rfl, rfl, rfl⟩ | ⟨x, rfl, hl, hm, hz, hcell, hwz⟩
  · exact ⟨by omega, by omega, .inl rfl⟩
  · unfold maxLen at hm
    refine ⟨hl, by omega, ?_⟩
    by_cases h0 : len = 0
    · exact .inl h0
    · obtain ⟨b, off, spot⟩ := x
      have hc := hcell 0 (by omega)
      have hspot : spot = none := by simpa [Addr.add] using World.cell?_spot hc
      subst hspot
      refine .inr ⟨b, off, rfl, fun i hi => ?_⟩
      have hi2 : i < zs.length := by omega
      have hb := bounds_u8 (hwz (zs.getD i 0) (by simp [List.getD, hi2]))
      have hci := hcell i hi2
      rw [add_none] at hci
      exact ⟨zs.getD i 0, hb.1, hb.2, hci⟩

theorem same_swap {a l b m : Int} : SK.sameB b m a l = SK.sameB a l b m := by
  unfold SK.sameB
  by_cases z : a = b
  · subst z
    have e : (m == l) = (l == m) := by
      by_cases y : l = m
      · subst y; rfl
      · rw [beq_false_of_ne y, beq_false_of_ne (fun h => y h.symm)]
    rw [e]
    cases SK.okP a l <;> cases SK.okP a m <;> rfl
  · rw [beq_false_of_ne z, beq_false_of_ne (fun h => z h.symm)]
    cases SK.okP a l <;> cases SK.okP b m <;> rfl
theorem same_self {a l : Int} : SK.sameB a l a l = SK.okP a l := by
  unfold SK.sameB
  cases SK.okP a l <;> simp
theorem same_ok {a l b m : Int} (h : SK.sameB a l b m = true) : (SK.okP a l && SK.okP b m) = true := by
  unfold SK.sameB at h
  simp only [Bool.and_eq_true] at h ⊢
  exact ⟨h.1, h.2.1⟩
set_option maxHeartbeats 8000000 in

set_option maxHeartbeats 8000000 in
theorem walk (a0 : Option Addr) (len0 cap0 : Nat) (z0 : List Int) (sa : Addr) (w : World) (w0 : IsRow .u8 w a0 len0 cap0 z0) (hs : SW.Sn sa w) :
    Calls Tryd.prog 4 #[.slice a0 len0 cap0] w fun e w' => e = .returned (.bool true) ∧ Below w.heap.size w w' := by
  by_cases hl : (len0 : Int) ≤ 1048576
  · go_enter Tryd.func4, Tryd.ntmps4
    go_wp2_with fail
    refine (DS.drawSpotSame_any _ _ _ _ (src w0)).mono ?_
    rintro e v1 ⟨a, l, b, m, rfl, a0, a1, l0, l1, b0, b1, m0, m1, Bx⟩
    have B := Bx
    replace hs := hs.kept Bx
    clear Bx
    have P := SK.Box.new v1 (a) (l) 32
    replace B := SK.below1 B (SK.below_new v1 (.cells #[.int .i64 (a), .int .i64 (l)] 32))
    replace hs := hs.alloc (.cells #[.int .i64 (a), .int .i64 (l)] 32)
    replace P := P.alloc (.cells #[.int .i64 (b), .int .i64 (m)] 32)
    have Q : SK.Box ((v1.alloc (.cells #[.int .i64 (a), .int .i64 (l)] 32)).alloc (.cells #[.int .i64 (b), .int .i64 (m)] 32)) (v1.heap.size + 1) (b) (m) := by simpa using SK.Box.new (v1.alloc (.cells #[.int .i64 (a), .int .i64 (l)] 32)) (b) (m) 32
    replace B := SK.below1 B (SK.below_new (v1.alloc (.cells #[.int .i64 (a), .int .i64 (l)] 32)) (.cells #[.int .i64 (b), .int .i64 (m)] 32))
    replace hs := hs.alloc (.cells #[.int .i64 (b), .int .i64 (m)] 32)
    cases he : SK.sameB a l b m
    · cases hx : (SK.okP a l && SK.okP b m)
      · cases ho : SK.okP a l
        · have F1 : ∀ w, Calls Tryd.prog 11 #[SK.spV (a) (l), SK.spV (b) (m)] w fun e w' => e = .returned (.bool false) ∧ Below w.heap.size w w' := fun w => by have := SK.spotSame_any a l b m w; rw [he] at this; exact this
          have F2 : ∀ w, Calls Tryd.prog 12 #[SK.spV (a) (l), SK.spV (b) (m)] w fun e w' => e = .returned (.bool false) ∧ Below w.heap.size w w' := fun w => by have := SK.sSpotSame_any a l b m w; rw [he] at this; exact this
          have F3 : ∀ w, Calls Tryd.prog 11 #[SK.spV (b) (m), SK.spV (a) (l)] w fun e w' => e = .returned (.bool false) ∧ Below w.heap.size w w' := fun w => by have := SK.spotSame_any b m a l w; rw [same_swap, he] at this; exact this
          have F4 : ∀ w, SW.Sn sa w → Calls Tryd.prog 13 #[SK.spV (a) (l), SK.spV (b) (m)] w fun e w' => e = .returned (.tuple #[SK.spV (0) (0), .bool false]) ∧ Below w.heap.size w w' := fun w hs => by have := SK.spotDist_any (a) (l) (b) (m) sa w hs; rw [hx] at this; simp only [SM.sel] at this; exact this
          have F5 : ∀ w, Calls Tryd.prog 11 #[SK.spV (a) (l), SK.spV (a) (l)] w fun e w' => e = .returned (.bool false) ∧ Below w.heap.size w w' := fun w => by have := SK.spotSame_any a l a l w; rw [same_self, ho] at this; exact this
          have F6 : ∀ w, Calls Tryd.prog 14 #[SK.spV (a) (l)] w fun e w' => e = .returned (.bool false) ∧ Below w.heap.size w w' := fun w => by have := SK.sSpotOk_any a l w; rw [ho] at this; exact this
          clear he hx ho
          have ⟨Pc0, Pc1, Pf0, Pf1⟩ := P
          have ⟨Qc0, Qc1, Qf0, Qf1⟩ := Q
          go_wp2_with fail
          refine (F1 _).mono ?_
          rintro e v2 ⟨rfl, Bx⟩
          clear Pc0 Pc1 Pf0 Pf1 Qc0 Qc1 Qf0 Qf1
          replace P := P.kept Bx
          replace Q := Q.kept Bx
          replace B := SK.below1 B Bx
          replace hs := hs.kept Bx
          clear Bx
          have ⟨Pc0, Pc1, Pf0, Pf1⟩ := P
          have ⟨Qc0, Qc1, Qf0, Qf1⟩ := Q
          go_wp2_with fail
          refine (F2 _).mono ?_
          rintro e v3 ⟨rfl, Bx⟩
          clear Pc0 Pc1 Pf0 Pf1 Qc0 Qc1 Qf0 Qf1
          replace P := P.kept Bx
          replace Q := Q.kept Bx
          replace B := SK.below1 B Bx
          replace hs := hs.kept Bx
          clear Bx
          have ⟨Pc0, Pc1, Pf0, Pf1⟩ := P
          have ⟨Qc0, Qc1, Qf0, Qf1⟩ := Q
          go_wp2_with fail
          refine (F3 _).mono ?_
          rintro e v4 ⟨rfl, Bx⟩
          clear Pc0 Pc1 Pf0 Pf1 Qc0 Qc1 Qf0 Qf1
          replace P := P.kept Bx
          replace Q := Q.kept Bx
          replace B := SK.below1 B Bx
          replace hs := hs.kept Bx
          clear Bx
          have ⟨Pc0, Pc1, Pf0, Pf1⟩ := P
          have ⟨Qc0, Qc1, Qf0, Qf1⟩ := Q
          go_wp2_with fail
          refine (F4 _ hs).mono ?_
          rintro e v5 ⟨rfl, Bx⟩
          clear Pc0 Pc1 Pf0 Pf1 Qc0 Qc1 Qf0 Qf1
          replace P := P.kept Bx
          replace Q := Q.kept Bx
          replace B := SK.below1 B Bx
          replace hs := hs.kept Bx
          clear Bx
          replace P := P.alloc (.cells #[.int .i64 (0), .int .i64 (0)] 24)
          replace Q := Q.alloc (.cells #[.int .i64 (0), .int .i64 (0)] 24)
          have S1 := SK.Box.new v5 (0) (0) 24
          replace B := SK.below1 B (SK.below_new v5 (.cells #[.int .i64 (0), .int .i64 (0)] 24))
          replace hs := hs.alloc (.cells #[.int .i64 (0), .int .i64 (0)] 24)
          go_wp2_with fail
          generalize (v5.alloc (.cells #[.int .i64 (0), .int .i64 (0)] 24)) = W at *
          have ⟨Pc0, Pc1, Pf0, Pf1⟩ := P
          have ⟨Qc0, Qc1, Qf0, Qf1⟩ := Q
          have ⟨S1c0, S1c1, S1f0, S1f1⟩ := S1
          go_wp2_with fail
          clear Pc0 Pc1 Pf0 Pf1 Qc0 Qc1 Qf0 Qf1 S1c0 S1c1 S1f0 S1f1
          have Pk0 := cell_regrown P.c0
          have Pk1 := cell_regrown P.c1
          have Qk0 := cell_regrown Q.c0
          have Qk1 := cell_regrown Q.c1
          have S1k0 := cell_regrown S1.c0
          have S1k1 := cell_regrown S1.c1
          have c1 : ∀ d os, Calls Tryd.prog 11 #[SK.spV a l, SK.spV a l] (grow (redrawn W d) os) fun e w'' => e = .returned (.bool false) ∧ ∃ p : Regrown, w'' = grow (redrawn W p.d) p.os := fun d os => Calls.regrown_of (F5 _)
          have c2 : ∀ d os, Calls Tryd.prog 14 #[SK.spV a l] (grow (redrawn W d) os) fun e w'' => e = .returned (.bool false) ∧ ∃ p : Regrown, w'' = grow (redrawn W p.d) p.os := fun d os => Calls.regrown_of (F6 _)
          refine KS.region (by kernel_rfl) (by kernel_rfl) ?_
          repeat (refine KS.step (fun K hK => ?_); go_simp; refine hK _ ?_; clear hK K)
          refine KS.step (fun K hK => ?_)
          go_simp
          apply Exists.intro
          refine ⟨fun _ => ?_, hK _ ?_⟩
          exact c1 _ _
          clear hK K
          repeat (refine KS.step (fun K hK => ?_); go_simp; refine hK _ ?_; clear hK K)
          refine KS.step (fun K hK => ?_)
          go_simp
          apply Exists.intro
          refine ⟨fun _ => ?_, hK _ ?_⟩
          exact c2 _ _
          clear hK K
          repeat (refine KS.step (fun K hK => ?_); go_simp; refine hK _ ?_; clear hK K)
          refine KS.nil ?_
          rintro _ ⟨p, rfl⟩
          go_wp2
          go_ret
          exact ⟨rfl, SK.below1 B (below_regrown _ _ _)⟩
        · have F1 : ∀ w, Calls Tryd.prog 11 #[SK.spV (a) (l), SK.spV (b) (m)] w fun e w' => e = .returned (.bool false) ∧ Below w.heap.size w w' := fun w => by have := SK.spotSame_any a l b m w; rw [he] at this; exact this
          have F2 : ∀ w, Calls Tryd.prog 12 #[SK.spV (a) (l), SK.spV (b) (m)] w fun e w' => e = .returned (.bool false) ∧ Below w.heap.size w w' := fun w => by have := SK.sSpotSame_any a l b m w; rw [he] at this; exact this
          have F3 : ∀ w, Calls Tryd.prog 11 #[SK.spV (b) (m), SK.spV (a) (l)] w fun e w' => e = .returned (.bool false) ∧ Below w.heap.size w w' := fun w => by have := SK.spotSame_any b m a l w; rw [same_swap, he] at this; exact this
          have F4 : ∀ w, SW.Sn sa w → Calls Tryd.prog 13 #[SK.spV (a) (l), SK.spV (b) (m)] w fun e w' => e = .returned (.tuple #[SK.spV (0) (0), .bool false]) ∧ Below w.heap.size w w' := fun w hs => by have := SK.spotDist_any (a) (l) (b) (m) sa w hs; rw [hx] at this; simp only [SM.sel] at this; exact this
          have F5 : ∀ w, Calls Tryd.prog 11 #[SK.spV (a) (l), SK.spV (a) (l)] w fun e w' => e = .returned (.bool true) ∧ Below w.heap.size w w' := fun w => by have := SK.spotSame_any a l a l w; rw [same_self, ho] at this; exact this
          have F6 : ∀ w, Calls Tryd.prog 14 #[SK.spV (a) (l)] w fun e w' => e = .returned (.bool true) ∧ Below w.heap.size w w' := fun w => by have := SK.sSpotOk_any a l w; rw [ho] at this; exact this
          clear he hx ho
          have ⟨Pc0, Pc1, Pf0, Pf1⟩ := P
          have ⟨Qc0, Qc1, Qf0, Qf1⟩ := Q
          go_wp2_with fail
          refine (F1 _).mono ?_
          rintro e v2 ⟨rfl, Bx⟩
          clear Pc0 Pc1 Pf0 Pf1 Qc0 Qc1 Qf0 Qf1
          replace P := P.kept Bx
          replace Q := Q.kept Bx
          replace B := SK.below1 B Bx
          replace hs := hs.kept Bx
          clear Bx
          have ⟨Pc0, Pc1, Pf0, Pf1⟩ := P
          have ⟨Qc0, Qc1, Qf0, Qf1⟩ := Q
          go_wp2_with fail
          refine (F2 _).mono ?_
          rintro e v3 ⟨rfl, Bx⟩
          clear Pc0 Pc1 Pf0 Pf1 Qc0 Qc1 Qf0 Qf1
          replace P := P.kept Bx
          replace Q := Q.kept Bx
          replace B := SK.below1 B Bx
          replace hs := hs.kept Bx
          clear Bx
          have ⟨Pc0, Pc1, Pf0, Pf1⟩ := P
          have ⟨Qc0, Qc1, Qf0, Qf1⟩ := Q
          go_wp2_with fail
          refine (F3 _).mono ?_
          rintro e v4 ⟨rfl, Bx⟩
          clear Pc0 Pc1 Pf0 Pf1 Qc0 Qc1 Qf0 Qf1
          replace P := P.kept Bx
          replace Q := Q.kept Bx
          replace B := SK.below1 B Bx
          replace hs := hs.kept Bx
          clear Bx
          have ⟨Pc0, Pc1, Pf0, Pf1⟩ := P
          have ⟨Qc0, Qc1, Qf0, Qf1⟩ := Q
          go_wp2_with fail
          refine (F4 _ hs).mono ?_
          rintro e v5 ⟨rfl, Bx⟩
          clear Pc0 Pc1 Pf0 Pf1 Qc0 Qc1 Qf0 Qf1
          replace P := P.kept Bx
          replace Q := Q.kept Bx
          replace B := SK.below1 B Bx
          replace hs := hs.kept Bx
          clear Bx
          replace P := P.alloc (.cells #[.int .i64 (0), .int .i64 (0)] 24)
          replace Q := Q.alloc (.cells #[.int .i64 (0), .int .i64 (0)] 24)
          have S1 := SK.Box.new v5 (0) (0) 24
          replace B := SK.below1 B (SK.below_new v5 (.cells #[.int .i64 (0), .int .i64 (0)] 24))
          replace hs := hs.alloc (.cells #[.int .i64 (0), .int .i64 (0)] 24)
          go_wp2_with fail
          generalize (v5.alloc (.cells #[.int .i64 (0), .int .i64 (0)] 24)) = W at *
          have ⟨Pc0, Pc1, Pf0, Pf1⟩ := P
          have ⟨Qc0, Qc1, Qf0, Qf1⟩ := Q
          have ⟨S1c0, S1c1, S1f0, S1f1⟩ := S1
          go_wp2_with fail
          clear Pc0 Pc1 Pf0 Pf1 Qc0 Qc1 Qf0 Qf1 S1c0 S1c1 S1f0 S1f1
          have Pk0 := cell_regrown P.c0
          have Pk1 := cell_regrown P.c1
          have Qk0 := cell_regrown Q.c0
          have Qk1 := cell_regrown Q.c1
          have S1k0 := cell_regrown S1.c0
          have S1k1 := cell_regrown S1.c1
          have c1 : ∀ d os, Calls Tryd.prog 11 #[SK.spV a l, SK.spV a l] (grow (redrawn W d) os) fun e w'' => e = .returned (.bool true) ∧ ∃ p : Regrown, w'' = grow (redrawn W p.d) p.os := fun d os => Calls.regrown_of (F5 _)
          have c2 : ∀ d os, Calls Tryd.prog 14 #[SK.spV a l] (grow (redrawn W d) os) fun e w'' => e = .returned (.bool true) ∧ ∃ p : Regrown, w'' = grow (redrawn W p.d) p.os := fun d os => Calls.regrown_of (F6 _)
          refine KS.region (by kernel_rfl) (by kernel_rfl) ?_
          repeat (refine KS.step (fun K hK => ?_); go_simp; refine hK _ ?_; clear hK K)
          refine KS.step (fun K hK => ?_)
          go_simp
          apply Exists.intro
          refine ⟨fun _ => ?_, hK _ ?_⟩
          exact c1 _ _
          clear hK K
          repeat (refine KS.step (fun K hK => ?_); go_simp; refine hK _ ?_; clear hK K)
          refine KS.step (fun K hK => ?_)
          go_simp
          apply Exists.intro
          refine ⟨fun _ => ?_, hK _ ?_⟩
          exact c2 _ _
          clear hK K
          repeat (refine KS.step (fun K hK => ?_); go_simp; refine hK _ ?_; clear hK K)
          refine KS.nil ?_
          rintro _ ⟨p, rfl⟩
          go_wp2
          go_ret
          exact ⟨rfl, SK.below1 B (below_regrown _ _ _)⟩
      · have ho : SK.okP a l = true := by rw [Bool.and_eq_true] at hx; exact hx.1
        have F1 : ∀ w, Calls Tryd.prog 11 #[SK.spV (a) (l), SK.spV (b) (m)] w fun e w' => e = .returned (.bool false) ∧ Below w.heap.size w w' := fun w => by have := SK.spotSame_any a l b m w; rw [he] at this; exact this
        have F2 : ∀ w, Calls Tryd.prog 12 #[SK.spV (a) (l), SK.spV (b) (m)] w fun e w' => e = .returned (.bool false) ∧ Below w.heap.size w w' := fun w => by have := SK.sSpotSame_any a l b m w; rw [he] at this; exact this
        have F3 : ∀ w, Calls Tryd.prog 11 #[SK.spV (b) (m), SK.spV (a) (l)] w fun e w' => e = .returned (.bool false) ∧ Below w.heap.size w w' := fun w => by have := SK.spotSame_any b m a l w; rw [same_swap, he] at this; exact this
        have F4 : ∀ w, SW.Sn sa w → Calls Tryd.prog 13 #[SK.spV (a) (l), SK.spV (b) (m)] w fun e w' => e = .returned (.tuple #[SK.spV (SI.dsL a l b m) (SI.dsH a l b m), .bool true]) ∧ Below w.heap.size w w' := fun w hs => by have := SK.spotDist_any (a) (l) (b) (m) sa w hs; rw [hx] at this; simp only [SM.sel] at this; exact this
        have F5 : ∀ w, Calls Tryd.prog 11 #[SK.spV (a) (l), SK.spV (a) (l)] w fun e w' => e = .returned (.bool true) ∧ Below w.heap.size w w' := fun w => by have := SK.spotSame_any a l a l w; rw [same_self, ho] at this; exact this
        have F6 : ∀ w, Calls Tryd.prog 14 #[SK.spV (a) (l)] w fun e w' => e = .returned (.bool true) ∧ Below w.heap.size w w' := fun w => by have := SK.sSpotOk_any a l w; rw [ho] at this; exact this
        clear he hx ho
        generalize SI.dsL a l b m = p at *
        generalize SI.dsH a l b m = q at *
        have ⟨Pc0, Pc1, Pf0, Pf1⟩ := P
        have ⟨Qc0, Qc1, Qf0, Qf1⟩ := Q
        go_wp2_with fail
        refine (F1 _).mono ?_
        rintro e v2 ⟨rfl, Bx⟩
        clear Pc0 Pc1 Pf0 Pf1 Qc0 Qc1 Qf0 Qf1
        replace P := P.kept Bx
        replace Q := Q.kept Bx
        replace B := SK.below1 B Bx
        replace hs := hs.kept Bx
        clear Bx
        have ⟨Pc0, Pc1, Pf0, Pf1⟩ := P
        have ⟨Qc0, Qc1, Qf0, Qf1⟩ := Q
        go_wp2_with fail
        refine (F2 _).mono ?_
        rintro e v3 ⟨rfl, Bx⟩
        clear Pc0 Pc1 Pf0 Pf1 Qc0 Qc1 Qf0 Qf1
        replace P := P.kept Bx
        replace Q := Q.kept Bx
        replace B := SK.below1 B Bx
        replace hs := hs.kept Bx
        clear Bx
        have ⟨Pc0, Pc1, Pf0, Pf1⟩ := P
        have ⟨Qc0, Qc1, Qf0, Qf1⟩ := Q
        go_wp2_with fail
        refine (F3 _).mono ?_
        rintro e v4 ⟨rfl, Bx⟩
        clear Pc0 Pc1 Pf0 Pf1 Qc0 Qc1 Qf0 Qf1
        replace P := P.kept Bx
        replace Q := Q.kept Bx
        replace B := SK.below1 B Bx
        replace hs := hs.kept Bx
        clear Bx
        have ⟨Pc0, Pc1, Pf0, Pf1⟩ := P
        have ⟨Qc0, Qc1, Qf0, Qf1⟩ := Q
        go_wp2_with fail
        refine (F4 _ hs).mono ?_
        rintro e v5 ⟨rfl, Bx⟩
        clear Pc0 Pc1 Pf0 Pf1 Qc0 Qc1 Qf0 Qf1
        replace P := P.kept Bx
        replace Q := Q.kept Bx
        replace B := SK.below1 B Bx
        replace hs := hs.kept Bx
        clear Bx
        replace P := P.alloc (.cells #[.int .i64 (p), .int .i64 (q)] 24)
        replace Q := Q.alloc (.cells #[.int .i64 (p), .int .i64 (q)] 24)
        have S1 := SK.Box.new v5 (p) (q) 24
        replace B := SK.below1 B (SK.below_new v5 (.cells #[.int .i64 (p), .int .i64 (q)] 24))
        replace hs := hs.alloc (.cells #[.int .i64 (p), .int .i64 (q)] 24)
        go_wp2_with fail
        generalize (v5.alloc (.cells #[.int .i64 (p), .int .i64 (q)] 24)) = W at *
        have ⟨Pc0, Pc1, Pf0, Pf1⟩ := P
        have ⟨Qc0, Qc1, Qf0, Qf1⟩ := Q
        have ⟨S1c0, S1c1, S1f0, S1f1⟩ := S1
        go_wp2_with fail
        clear Pc0 Pc1 Pf0 Pf1 Qc0 Qc1 Qf0 Qf1 S1c0 S1c1 S1f0 S1f1
        have Pk0 := cell_regrown P.c0
        have Pk1 := cell_regrown P.c1
        have Qk0 := cell_regrown Q.c0
        have Qk1 := cell_regrown Q.c1
        have S1k0 := cell_regrown S1.c0
        have S1k1 := cell_regrown S1.c1
        have c1 : ∀ d os, Calls Tryd.prog 11 #[SK.spV a l, SK.spV a l] (grow (redrawn W d) os) fun e w'' => e = .returned (.bool true) ∧ ∃ p : Regrown, w'' = grow (redrawn W p.d) p.os := fun d os => Calls.regrown_of (F5 _)
        have c2 : ∀ d os, Calls Tryd.prog 14 #[SK.spV a l] (grow (redrawn W d) os) fun e w'' => e = .returned (.bool true) ∧ ∃ p : Regrown, w'' = grow (redrawn W p.d) p.os := fun d os => Calls.regrown_of (F6 _)
        refine KS.region (by kernel_rfl) (by kernel_rfl) ?_
        repeat (refine KS.step (fun K hK => ?_); go_simp; refine hK _ ?_; clear hK K)
        refine KS.step (fun K hK => ?_)
        go_simp
        apply Exists.intro
        refine ⟨fun _ => ?_, hK _ ?_⟩
        exact c1 _ _
        clear hK K
        repeat (refine KS.step (fun K hK => ?_); go_simp; refine hK _ ?_; clear hK K)
        refine KS.step (fun K hK => ?_)
        go_simp
        apply Exists.intro
        refine ⟨fun _ => ?_, hK _ ?_⟩
        exact c2 _ _
        clear hK K
        repeat (refine KS.step (fun K hK => ?_); go_simp; refine hK _ ?_; clear hK K)
        refine KS.nil ?_
        rintro _ ⟨p, rfl⟩
        go_wp2
        go_ret
        exact ⟨rfl, SK.below1 B (below_regrown _ _ _)⟩
    · have hx : (SK.okP a l && SK.okP b m) = true := same_ok he
      have ho : SK.okP a l = true := by rw [Bool.and_eq_true] at hx; exact hx.1
      have F1 : ∀ w, Calls Tryd.prog 11 #[SK.spV (a) (l), SK.spV (b) (m)] w fun e w' => e = .returned (.bool true) ∧ Below w.heap.size w w' := fun w => by have := SK.spotSame_any a l b m w; rw [he] at this; exact this
      have F2 : ∀ w, Calls Tryd.prog 12 #[SK.spV (a) (l), SK.spV (b) (m)] w fun e w' => e = .returned (.bool true) ∧ Below w.heap.size w w' := fun w => by have := SK.sSpotSame_any a l b m w; rw [he] at this; exact this
      have F3 : ∀ w, Calls Tryd.prog 11 #[SK.spV (b) (m), SK.spV (a) (l)] w fun e w' => e = .returned (.bool true) ∧ Below w.heap.size w w' := fun w => by have := SK.spotSame_any b m a l w; rw [same_swap, he] at this; exact this
      obtain ⟨z1, z2⟩ := SI.ds_same (SK.same_of he)
      have F4 : ∀ w, SW.Sn sa w → Calls Tryd.prog 13 #[SK.spV (a) (l), SK.spV (b) (m)] w fun e w' => e = .returned (.tuple #[SK.spV (0) (0), .bool true]) ∧ Below w.heap.size w w' := fun w hs => by have := SK.spotDist_any (a) (l) (b) (m) sa w hs; rw [hx] at this; simp only [SM.sel] at this; rw [z1, z2] at this; exact this
      have F5 : ∀ w, Calls Tryd.prog 11 #[SK.spV (a) (l), SK.spV (a) (l)] w fun e w' => e = .returned (.bool true) ∧ Below w.heap.size w w' := fun w => by have := SK.spotSame_any a l a l w; rw [same_self, ho] at this; exact this
      have F6 : ∀ w, Calls Tryd.prog 14 #[SK.spV (a) (l)] w fun e w' => e = .returned (.bool true) ∧ Below w.heap.size w w' := fun w => by have := SK.sSpotOk_any a l w; rw [ho] at this; exact this
      obtain ⟨ab, _⟩ := SK.same_of he
      clear z1 z2 he hx ho
      subst ab
      have ⟨Pc0, Pc1, Pf0, Pf1⟩ := P
      have ⟨Qc0, Qc1, Qf0, Qf1⟩ := Q
      go_wp2_with fail
      refine (F1 _).mono ?_
      rintro e v2 ⟨rfl, Bx⟩
      clear Pc0 Pc1 Pf0 Pf1 Qc0 Qc1 Qf0 Qf1
      replace P := P.kept Bx
      replace Q := Q.kept Bx
      replace B := SK.below1 B Bx
      replace hs := hs.kept Bx
      clear Bx
      have ⟨Pc0, Pc1, Pf0, Pf1⟩ := P
      have ⟨Qc0, Qc1, Qf0, Qf1⟩ := Q
      go_wp2_with fail
      refine (F2 _).mono ?_
      rintro e v3 ⟨rfl, Bx⟩
      clear Pc0 Pc1 Pf0 Pf1 Qc0 Qc1 Qf0 Qf1
      replace P := P.kept Bx
      replace Q := Q.kept Bx
      replace B := SK.below1 B Bx
      replace hs := hs.kept Bx
      clear Bx
      have ⟨Pc0, Pc1, Pf0, Pf1⟩ := P
      have ⟨Qc0, Qc1, Qf0, Qf1⟩ := Q
      go_wp2_with fail
      refine (F3 _).mono ?_
      rintro e v4 ⟨rfl, Bx⟩
      clear Pc0 Pc1 Pf0 Pf1 Qc0 Qc1 Qf0 Qf1
      replace P := P.kept Bx
      replace Q := Q.kept Bx
      replace B := SK.below1 B Bx
      replace hs := hs.kept Bx
      clear Bx
      have ⟨Pc0, Pc1, Pf0, Pf1⟩ := P
      have ⟨Qc0, Qc1, Qf0, Qf1⟩ := Q
      go_wp2_with fail
      refine (F4 _ hs).mono ?_
      rintro e v5 ⟨rfl, Bx⟩
      clear Pc0 Pc1 Pf0 Pf1 Qc0 Qc1 Qf0 Qf1
      replace P := P.kept Bx
      replace Q := Q.kept Bx
      replace B := SK.below1 B Bx
      replace hs := hs.kept Bx
      clear Bx
      replace P := P.alloc (.cells #[.int .i64 (0), .int .i64 (0)] 24)
      replace Q := Q.alloc (.cells #[.int .i64 (0), .int .i64 (0)] 24)
      have S1 := SK.Box.new v5 (0) (0) 24
      replace B := SK.below1 B (SK.below_new v5 (.cells #[.int .i64 (0), .int .i64 (0)] 24))
      replace hs := hs.alloc (.cells #[.int .i64 (0), .int .i64 (0)] 24)
      go_wp2_with fail
      generalize (v5.alloc (.cells #[.int .i64 (0), .int .i64 (0)] 24)) = W at *
      have ⟨Pc0, Pc1, Pf0, Pf1⟩ := P
      have ⟨Qc0, Qc1, Qf0, Qf1⟩ := Q
      have ⟨S1c0, S1c1, S1f0, S1f1⟩ := S1
      go_wp2_with fail
      clear Pc0 Pc1 Pf0 Pf1 Qc0 Qc1 Qf0 Qf1 S1c0 S1c1 S1f0 S1f1
      have Pk0 := cell_regrown P.c0
      have Pk1 := cell_regrown P.c1
      have Qk0 := cell_regrown Q.c0
      have Qk1 := cell_regrown Q.c1
      have S1k0 := cell_regrown S1.c0
      have S1k1 := cell_regrown S1.c1
      have c1 : ∀ d os, Calls Tryd.prog 11 #[SK.spV a l, SK.spV a l] (grow (redrawn W d) os) fun e w'' => e = .returned (.bool true) ∧ ∃ p : Regrown, w'' = grow (redrawn W p.d) p.os := fun d os => Calls.regrown_of (F5 _)
      have c2 : ∀ d os, Calls Tryd.prog 14 #[SK.spV a l] (grow (redrawn W d) os) fun e w'' => e = .returned (.bool true) ∧ ∃ p : Regrown, w'' = grow (redrawn W p.d) p.os := fun d os => Calls.regrown_of (F6 _)
      refine KS.region (by kernel_rfl) (by kernel_rfl) ?_
      repeat (refine KS.step (fun K hK => ?_); go_simp; refine hK _ ?_; clear hK K)
      refine KS.step (fun K hK => ?_)
      go_simp
      apply Exists.intro
      refine ⟨fun _ => ?_, hK _ ?_⟩
      exact c1 _ _
      clear hK K
      repeat (refine KS.step (fun K hK => ?_); go_simp; refine hK _ ?_; clear hK K)
      refine KS.step (fun K hK => ?_)
      go_simp
      apply Exists.intro
      refine ⟨fun _ => ?_, hK _ ?_⟩
      exact c2 _ _
      clear hK K
      repeat (refine KS.step (fun K hK => ?_); go_simp; refine hK _ ?_; clear hK K)
      refine KS.nil ?_
      rintro _ ⟨p, rfl⟩
      go_wp2
      go_ret
      exact ⟨rfl, SK.below1 B (below_regrown _ _ _)⟩
  · go_enter Tryd.func4, Tryd.ntmps4
    go_wp2
    go_ret
    exact ⟨rfl, Below.refl _ _⟩

set_option maxRecDepth 100000 in
theorem lifted (os : Os) (started : os.Started) (H : Type) (enc : TypeId × Value → H) :
    ReturnsInHanded {} Tryd.checked os 4 .any (fun w args => (Rows.fnSpotSameSpec.pre enc Tryd.prog Tryd.f4 [] false w args ∧ laidMetH Tryd.prog DR.laid1 w) ∧ sizedMet enc Tryd.prog Tryd.f4 (OpenSpec.ofChange Rows.fnSpotSameSpec) false w args)
      (Rows.fnSpotSameSpec.post enc Tryd.prog Tryd.f4 false true false false) := by
  refine returnsInHanded_of_change_and (C := Tryd.checked) (X := fun w _ => laidMetH Tryd.prog DR.laid1 w) (fun _ _ _ hh h => h.of_heap hh) own started (by kernel_rfl) Tryd.func4
    (ChangeSpec.witness_shaped (enc := enc) (C := Tryd.checked) (os := os) (X := fun w _ => laidMetH Tryd.prog DR.laid1 w) false (World.doorLaid Tryd.prog 400 os) #[.slice none 0 0] 8 rfl (World.shaped_of_RefB (by kernel_rfl) (by kernel_rfl)) (by kernel_rfl) (by kernel_rfl) (by kernel_rfl) (DR.door_met os _)) ?_
  intro W base args ds gs before hval0 hW _ _ hL _
  have hval : ∀ (j : Nat) t v, Tryd.f4.params[j]? = some t → args[j]? = some v → Value.okWide Tryd.prog W .any base t v := hval0
  have hW' := hW
  obtain ⟨p, q, hA0, hV, rfl, hfz, hnd⟩ := hW
  have hA : DataW.TrodAll enc Tryd.prog W 0 (fun _ => true) true Tryd.f4.params.toList args.toList ds p := hA0
  rw [Tryd.params4] at hA hval
  obtain ⟨v0, vs0, d0, ds0, p0, q0, hargs0, rfl, rfl, h0, r0⟩ := trodAll_cons hA
  obtain ⟨rfl, rfl, rfl⟩ := trodAll_nil r0
  obtain rfl : args = #[v0] := by cases args; simp_all
  obtain ⟨sa, hv, hs⟩ := DR.of_laid hL
  obtain ⟨rfl, rfl⟩ := DataW.TrodVars.unique hV (DR.vars_read enc hv _)
  obtain ⟨a0, len0, cap0, rfl⟩ := okWide_slice Tryd.underlying22 (hval 0 22 v0 rfl rfl)
  have k0 := h0
  have lt0 : ∀ x ∈ p0, x.block < W.heap.size := by obtain ⟨m, hm⟩ := k0; exact DataW.trod_lt m _ _ _ hm
  obtain ⟨z0, w0⟩ : ∃ zs, IsRow .u8 W a0 len0 cap0 zs := by
    obtain ⟨fuel, hf⟩ := h0
    rcases open_ints Tryd.underlying22 Tryd.underlying5 (by kernel_rfl) hf with ⟨hcs, _⟩ | ⟨x, l, c, zs, hcs, _, hl, hm, hz, _, hcell, hwz⟩
    · simp [Value.cells] at hcs
      obtain ⟨rfl, rfl, rfl⟩ := hcs
      exact ⟨[], .inl ⟨rfl, rfl, rfl, rfl⟩⟩
    · simp [Value.cells] at hcs
      obtain ⟨rfl, rfl, rfl⟩ := hcs
      exact ⟨zs, .inr ⟨_, rfl, hl, hm, by simpa using hz, hcell, hwz⟩⟩
  clear hA0 hval0
  refine (walk a0 len0 cap0 z0 sa W w0 hs).mono fun e W' ⟨he, bel⟩ => ?_
  subst he
  exact ⟨_, rfl, _, _, _, [], _, [.cell 0 0], hW', trodAll_mk1 (shut_bool Tryd.underlying4 _), (trodAll_cons_mk (Below.trod laidOut (by kernel_rfl) (of_decide_eq_true (by kernel_rfl)) k0 bel lt0) trodAll_mk0), DR.vars_read enc (DR.var_below hv bel) _, bel.frame _, fun h => by cases h⟩

theorem said : Rows.FnSpotSameSaid :=
  OpenClaim.holds_of_wide 4 Tryd.f4 rfl rfl rfl rfl rfl rfl rfl ⟨rfl, rfl, rfl, rfl, rfl⟩ rfl rfl rfl rfl rfl (by kernel_rfl) Tryd.func4 (by kernel_rfl)
    (of_decide_eq_true (by kernel_rfl)) (by unfold Func.isWrapper; first | (rw [if_pos (by decide +kernel)]; kernel_rfl) | (rw [if_neg (by decide +kernel)]; exact ⟨rfl, rfl⟩))
    (fun os started H enc _ => lifted os started H enc)

theorem plain (f : FuncId) (fn : Func) (hf : Tryd.pinned.checked.prog.funcNamed "loop.example/alidade/laws.FnSpotSame" = some f) (hfn : Tryd.pinned.checked.prog.funcs[f]? = some fn) :
    true = Tryd.pinned.checked.prog.looks [] ∧ ∀ (j : Nat) t, fn.params[j]? = some t → Tryd.pinned.checked.prog.wantsStandIn t = false := by
  obtain rfl : f = 4 := Option.some.inj ((show Tryd.prog.funcNamed "loop.example/alidade/laws.FnSpotSame" = some 4 by kernel_rfl).symm.trans hf) |>.symm
  obtain rfl : fn = Tryd.f4 := (Option.some.inj (Tryd.func4.symm.trans hfn)).symm
  refine ⟨by kernel_rfl, fun j t ht => ?_⟩
  rw [Tryd.params4] at ht
  have hm : t ∈ [22] := by
    have := Array.mem_of_getElem? ht
    simpa using this
  have hall : ([22].all fun u => !Tryd.prog.wantsStandIn u) = true := by kernel_rfl
  exact (show Tryd.prog.wantsStandIn t = false by simpa using List.all_eq_true.1 hall t hm)

theorem card : Rows.FnSpotSameCardSaid :=
  Claim7.holds_tied_plain_at .later [] _ _ _ _ said (fun _ h => by cases h) (by kernel_rfl) (fun _ h => by cases h) fnSpotSame_row_tie rfl ⟨rfl, rfl⟩ (by kernel_rfl) rfl plain (by kernel_rfl)
end Go.Proofs.YtfdkpcejjcifgalDoor.fnSpotSame
namespace Go.Proofs.YtfdkpcejjcifgalDoor
theorem fnSpotSame_holds : Rows.FnSpotSameCardSaid := fnSpotSame.card
#print axioms fnSpotSame_holds
end Go.Proofs.YtfdkpcejjcifgalDoor
