/-
  For every code of bytes the law returns true: what the program's SureRound does not tell of a drawn ok span, though both ends are rounded by the same parts, could be two numbers. The package's variable errTooGreat is as the program's text lays it.
-/
import Derived.Test.YtldogjldnckdmaeDoorCards
import Derived.Test.YtldogjldnckdmaeDoorTie
import Derived.Test.YtldogjldnckdmaeDoorDoorKit
import Derived.WalkKit
import Derived.ProofKit
import Derived.OpenShut
import Derived.ShutString
import Derived.ChangeOld
import Derived.Below
import Derived.LaidMore
import Derived.Stop.Joined
import Derived.SevenTiedAt
import Derived.Test.YtldogjldnckdmaeDoorNumWalks
import Derived.Test.YtldogjldnckdmaeDoorDrawKit
import Derived.Test.YtldogjldnckdmaeDoorDrawWalks
import Derived.Test.YtldogjldnckdmaeDoorDrawSpan
import Derived.Test.YtldogjldnckdmaeDoorDrawSpan2
import Derived.Test.YtldogjldnckdmaeDoorDrawSpan3
import Derived.Test.YtldogjldnckdmaeDoorSpanWalks
import Derived.Test.YtldogjldnckdmaeDoorSpanWalks2
import Derived.Test.YtldogjldnckdmaeDoorSpanWalks3
import Derived.Test.YtldogjldnckdmaeDoorSureMath
import Derived.Test.YtldogjldnckdmaeDoorSureWalks
import Derived.Test.YtldogjldnckdmaeDoorDrawSure
import Derived.Test.YtldogjldnckdmaeDoorKeptStep
namespace Go.Proofs.YtldogjldnckdmaeDoor.fnSureNot
open Go.ChangeShapes Go.WideShapes Go.ChangeAt Go.RowKit Go.Sort
set_option linter.unusedVariables false

theorem own : ownKnob Tryd.prog.godebug = none := by kernel_rfl
theorem laidOut : laidOutB Tryd.prog = true := by kernel_rfl
/-- What the walk is told of a slice of bytes that came in. -/
def IsRow (k : IntKind) (w : World) (a : Option Addr) (len cap : Nat) (zs : List Int) : Prop :=
  (a = none ∧ len = 0 ∧ cap = 0 ∧ zs = []) ∨
  ∃ x, a = some x ∧ len ≤ cap ∧ cap ≤ maxLen ∧ zs.length = cap ∧ (∀ i, i < zs.length → w.cell? (x.add i) = some (.int k (zs.getD i 0))) ∧ ∀ n ∈ zs, (Lit.int k n).wf = true
theorem add_none (b off i : Nat) : (⟨b, off, none⟩ : Addr).add i = ⟨b, off + i, none⟩ := by
  unfold Addr.add
  split
  · rename_i h
    subst h
    rfl
  · rfl
theorem src {w : World} {a : Option Addr} {len cap : Nat} {zs : List Int} (h : IsRow .u8 w a len cap zs) : DK.Src w a len cap := by
  rcases h with ⟨rfl, rfl, rfl, rfl⟩ | ⟨x, rfl, hl, hm, hz, hcell, hwz⟩
  · exact ⟨by omega, by omega, .inl rfl⟩
  · unfold maxLen at hm
    refine ⟨hl, by omega, ?_⟩
    by_cases h0 : len = 0
    · exact .inl h0
    · obtain ⟨b, off, spot⟩ := x
      have hc := hcell 0 (by omega)
      have hspot : spot = none := by simpa [Addr.add] using World.cell?_spot hc
      subst hspot
      refine .inr ⟨b, off, rfl, fun i hi => ?_⟩
      have hi2 : i < zs.length := by omega
      have hb := bounds_u8 (hwz (zs.getD i 0) (by simp [List.getD, hi2]))
      have hci := hcell i hi2
      rw [add_none] at hci
      exact ⟨zs.getD i 0, hb.1, hb.2, hci⟩


set_option maxHeartbeats 8000000 in
theorem walk (a0 : Option Addr) (len0 cap0 : Nat) (z0 : List Int) (sa : Addr) (w : World) (w0 : IsRow .u8 w a0 len0 cap0 z0) (hs : SW.Sn sa w) :
    Calls Tryd.prog 6 #[.slice a0 len0 cap0] w fun e w' => e = .returned (.bool true) ∧ Below w.heap.size w w' := by
  by_cases hl : (len0 : Int) ≤ 1048576
  · go_enter Tryd.func6, Tryd.ntmps6
    go_wp2_with fail
    refine (DW.drawSureRound_any _ _ _ _ (src w0)).mono ?_
    rintro e w1 ⟨sl, sh, pp, yy, rfl, l0, l1, h0, h1, p0, p1, y0, y1, B⟩
    have hs1 := hs.kept B
    have S := SW.Box.new w1 sl sh 24
    replace B := SW.below1 B (SW.below_new w1 (.cells #[.int .i64 (sl), .int .i64 (sh)] 24))
    replace hs1 := hs1.alloc (.cells #[.int .i64 (sl), .int .i64 (sh)] 24)
    cases ho : SR.sureB sl sh pp yy
    · have F1 : ∀ w, Calls Tryd.prog 16 #[SW.spV sl sh, .int .i64 pp, .int .i64 yy] w fun e w' => e = .returned (.tuple #[.int .i64 0, .bool false]) ∧ Below w.heap.size w w' := fun w => by have := SW.sSureRound_any sl sh pp yy w; rw [SR.sureV_no ho, ho] at this; exact this
      have F2 : ∀ w a, SW.Sn a w → Calls Tryd.prog 17 #[SW.spV sl sh, .int .i64 pp, .int .i64 yy] w fun e w' => e = .returned (.tuple #[.int .i64 0, .bool false]) ∧ Below w.heap.size w w' := fun w a hs => by have := SW.sureRound_any sl sh pp yy a w hs; rw [SR.sureV_no ho, ho] at this; exact this
      cases hk : SM.okS sl sh
      · obtain ⟨va, hva⟩ : ∃ va, va = NM.roundV sl pp yy := ⟨_, rfl⟩
        obtain ⟨vb, hvb⟩ : ∃ vb, vb = NM.roundV sh pp yy := ⟨_, rfl⟩
        obtain ⟨ba, hba⟩ : ∃ ba, ba = NM.roundB sl pp yy := ⟨_, rfl⟩
        obtain ⟨bb, hbb⟩ : ∃ bb, bb = NM.roundB sh pp yy := ⟨_, rfl⟩
        have F3 : ∀ w, Calls Tryd.prog 18 #[.int .i64 sl, .int .i64 pp, .int .i64 yy] w fun e w' => e = .returned (.tuple #[.int .i64 va, .bool ba]) ∧ Below w.heap.size w w' := fun w => by have := NW.numRound_any sl pp yy w; rw [← hva, ← hba] at this; exact this
        have F4 : ∀ w, Calls Tryd.prog 18 #[.int .i64 sh, .int .i64 pp, .int .i64 yy] w fun e w' => e = .returned (.tuple #[.int .i64 vb, .bool bb]) ∧ Below w.heap.size w w' := fun w => by have := NW.numRound_any sh pp yy w; rw [← hvb, ← hbb] at this; exact this
        clear hva hvb hba hbb ho
        have ⟨S0, S1, S2, S3⟩ := S
        go_wp2_with fail
        refine (F1 _).mono ?_
        rintro e w11 ⟨rfl, Bx⟩
        clear S0 S1 S2 S3
        replace S := S.kept Bx
        replace hs1 := hs1.kept Bx
        replace B := SW.below1 B Bx
        clear Bx
        have ⟨S0, S1, S2, S3⟩ := S
        go_wp2_with fail
        refine (F2 _ sa hs1).mono ?_
        rintro e w12 ⟨rfl, Bx⟩
        clear S0 S1 S2 S3
        replace S := S.kept Bx
        replace hs1 := hs1.kept Bx
        replace B := SW.below1 B Bx
        clear Bx
        have ⟨S0, S1, S2, S3⟩ := S
        go_wp2_with fail
        refine (F3 _).mono ?_
        rintro e w13 ⟨rfl, Bx⟩
        clear S0 S1 S2 S3
        replace S := S.kept Bx
        replace hs1 := hs1.kept Bx
        replace B := SW.below1 B Bx
        clear Bx
        have ⟨S0, S1, S2, S3⟩ := S
        go_wp2_with fail
        refine (F4 _).mono ?_
        rintro e w14 ⟨rfl, Bx⟩
        clear S0 S1 S2 S3
        replace S := S.kept Bx
        replace hs1 := hs1.kept Bx
        replace B := SW.below1 B Bx
        clear Bx
        have F8 : ∀ w a, SW.Sn a w → Calls Tryd.prog 19 #[SW.spV sl sh] w fun e w' => e = .returned (.bool false) ∧ Below w.heap.size w w' := fun w a hs => by have := SW.spanOk_any sl sh a w hs; rw [hk] at this; exact this
        have ⟨S0, S1, S2, S3⟩ := S
        go_wp2_with fail
        refine (F8 _ sa hs1).mono ?_
        rintro e w15 ⟨rfl, Bx⟩
        clear S0 S1 S2 S3
        replace S := S.kept Bx
        replace hs1 := hs1.kept Bx
        replace B := SW.below1 B Bx
        clear Bx
        have ⟨S0, S1, S2, S3⟩ := S
        go_wp2
        go_ret
        exact ⟨rfl, B⟩
      · cases h1_ : NM.roundB sl pp yy
        · obtain ⟨va, hva⟩ : ∃ va, va = NM.roundV sl pp yy := ⟨_, rfl⟩
          obtain ⟨vb, hvb⟩ : ∃ vb, vb = NM.roundV sh pp yy := ⟨_, rfl⟩
          obtain ⟨bb, hbb⟩ : ∃ bb, bb = NM.roundB sh pp yy := ⟨_, rfl⟩
          have F3 : ∀ w, Calls Tryd.prog 18 #[.int .i64 sl, .int .i64 pp, .int .i64 yy] w fun e w' => e = .returned (.tuple #[.int .i64 va, .bool false]) ∧ Below w.heap.size w w' := fun w => by have := NW.numRound_any sl pp yy w; rw [← hva, h1_] at this; exact this
          have F4 : ∀ w, Calls Tryd.prog 18 #[.int .i64 sh, .int .i64 pp, .int .i64 yy] w fun e w' => e = .returned (.tuple #[.int .i64 vb, .bool bb]) ∧ Below w.heap.size w w' := fun w => by have := NW.numRound_any sh pp yy w; rw [← hvb, ← hbb] at this; exact this
          clear hva hvb hbb ho
          have ⟨S0, S1, S2, S3⟩ := S
          go_wp2_with fail
          refine (F1 _).mono ?_
          rintro e w11 ⟨rfl, Bx⟩
          clear S0 S1 S2 S3
          replace S := S.kept Bx
          replace hs1 := hs1.kept Bx
          replace B := SW.below1 B Bx
          clear Bx
          have ⟨S0, S1, S2, S3⟩ := S
          go_wp2_with fail
          refine (F2 _ sa hs1).mono ?_
          rintro e w12 ⟨rfl, Bx⟩
          clear S0 S1 S2 S3
          replace S := S.kept Bx
          replace hs1 := hs1.kept Bx
          replace B := SW.below1 B Bx
          clear Bx
          have ⟨S0, S1, S2, S3⟩ := S
          go_wp2_with fail
          refine (F3 _).mono ?_
          rintro e w13 ⟨rfl, Bx⟩
          clear S0 S1 S2 S3
          replace S := S.kept Bx
          replace hs1 := hs1.kept Bx
          replace B := SW.below1 B Bx
          clear Bx
          have ⟨S0, S1, S2, S3⟩ := S
          go_wp2_with fail
          refine (F4 _).mono ?_
          rintro e w14 ⟨rfl, Bx⟩
          clear S0 S1 S2 S3
          replace S := S.kept Bx
          replace hs1 := hs1.kept Bx
          replace B := SW.below1 B Bx
          clear Bx
          have F8 : ∀ w a, SW.Sn a w → Calls Tryd.prog 19 #[SW.spV sl sh] w fun e w' => e = .returned (.bool true) ∧ Below w.heap.size w w' := fun w a hs => by have := SW.spanOk_any sl sh a w hs; rw [hk] at this; exact this
          have ⟨S0, S1, S2, S3⟩ := S
          go_wp2_with fail
          refine (F8 _ sa hs1).mono ?_
          rintro e w15 ⟨rfl, Bx⟩
          clear S0 S1 S2 S3
          replace S := S.kept Bx
          replace hs1 := hs1.kept Bx
          replace B := SW.below1 B Bx
          clear Bx
          have ⟨S0, S1, S2, S3⟩ := S
          go_wp2
          go_ret
          exact ⟨rfl, B⟩
        · cases h2_ : NM.roundB sh pp yy
          · obtain ⟨va, hva⟩ : ∃ va, va = NM.roundV sl pp yy := ⟨_, rfl⟩
            obtain ⟨vb, hvb⟩ : ∃ vb, vb = NM.roundV sh pp yy := ⟨_, rfl⟩
            have F3 : ∀ w, Calls Tryd.prog 18 #[.int .i64 sl, .int .i64 pp, .int .i64 yy] w fun e w' => e = .returned (.tuple #[.int .i64 va, .bool true]) ∧ Below w.heap.size w w' := fun w => by have := NW.numRound_any sl pp yy w; rw [← hva, h1_] at this; exact this
            have F4 : ∀ w, Calls Tryd.prog 18 #[.int .i64 sh, .int .i64 pp, .int .i64 yy] w fun e w' => e = .returned (.tuple #[.int .i64 vb, .bool false]) ∧ Below w.heap.size w w' := fun w => by have := NW.numRound_any sh pp yy w; rw [← hvb, h2_] at this; exact this
            clear hva hvb ho
            have ⟨S0, S1, S2, S3⟩ := S
            go_wp2_with fail
            refine (F1 _).mono ?_
            rintro e w11 ⟨rfl, Bx⟩
            clear S0 S1 S2 S3
            replace S := S.kept Bx
            replace hs1 := hs1.kept Bx
            replace B := SW.below1 B Bx
            clear Bx
            have ⟨S0, S1, S2, S3⟩ := S
            go_wp2_with fail
            refine (F2 _ sa hs1).mono ?_
            rintro e w12 ⟨rfl, Bx⟩
            clear S0 S1 S2 S3
            replace S := S.kept Bx
            replace hs1 := hs1.kept Bx
            replace B := SW.below1 B Bx
            clear Bx
            have ⟨S0, S1, S2, S3⟩ := S
            go_wp2_with fail
            refine (F3 _).mono ?_
            rintro e w13 ⟨rfl, Bx⟩
            clear S0 S1 S2 S3
            replace S := S.kept Bx
            replace hs1 := hs1.kept Bx
            replace B := SW.below1 B Bx
            clear Bx
            have ⟨S0, S1, S2, S3⟩ := S
            go_wp2_with fail
            refine (F4 _).mono ?_
            rintro e w14 ⟨rfl, Bx⟩
            clear S0 S1 S2 S3
            replace S := S.kept Bx
            replace hs1 := hs1.kept Bx
            replace B := SW.below1 B Bx
            clear Bx
            have F8 : ∀ w a, SW.Sn a w → Calls Tryd.prog 19 #[SW.spV sl sh] w fun e w' => e = .returned (.bool true) ∧ Below w.heap.size w w' := fun w a hs => by have := SW.spanOk_any sl sh a w hs; rw [hk] at this; exact this
            have ⟨S0, S1, S2, S3⟩ := S
            go_wp2_with fail
            refine (F8 _ sa hs1).mono ?_
            rintro e w15 ⟨rfl, Bx⟩
            clear S0 S1 S2 S3
            replace S := S.kept Bx
            replace hs1 := hs1.kept Bx
            replace B := SW.below1 B Bx
            clear Bx
            have ⟨S0, S1, S2, S3⟩ := S
            go_wp2
            go_ret
            exact ⟨rfl, B⟩
          · obtain ⟨va, hva⟩ : ∃ va, va = NM.roundV sl pp yy := ⟨_, rfl⟩
            obtain ⟨vb, hvb⟩ : ∃ vb, vb = NM.roundV sh pp yy := ⟨_, rfl⟩
            have F3 : ∀ w, Calls Tryd.prog 18 #[.int .i64 sl, .int .i64 pp, .int .i64 yy] w fun e w' => e = .returned (.tuple #[.int .i64 va, .bool true]) ∧ Below w.heap.size w w' := fun w => by have := NW.numRound_any sl pp yy w; rw [← hva, h1_] at this; exact this
            have F4 : ∀ w, Calls Tryd.prog 18 #[.int .i64 sh, .int .i64 pp, .int .i64 yy] w fun e w' => e = .returned (.tuple #[.int .i64 vb, .bool true]) ∧ Below w.heap.size w w' := fun w => by have := NW.numRound_any sh pp yy w; rw [← hvb, h2_] at this; exact this
            by_cases hv : va = vb
            · have z := SR.sure_two ho hk h1_ h2_ (by rw [← hva, ← hvb]; exact hv)
              clear hva hvb ho
              subst hv
              have ⟨S0, S1, S2, S3⟩ := S
              go_wp2_with fail
              refine (F1 _).mono ?_
              rintro e w11 ⟨rfl, Bx⟩
              clear S0 S1 S2 S3
              replace S := S.kept Bx
              replace hs1 := hs1.kept Bx
              replace B := SW.below1 B Bx
              clear Bx
              have ⟨S0, S1, S2, S3⟩ := S
              go_wp2_with fail
              refine (F2 _ sa hs1).mono ?_
              rintro e w12 ⟨rfl, Bx⟩
              clear S0 S1 S2 S3
              replace S := S.kept Bx
              replace hs1 := hs1.kept Bx
              replace B := SW.below1 B Bx
              clear Bx
              have ⟨S0, S1, S2, S3⟩ := S
              go_wp2_with fail
              refine (F3 _).mono ?_
              rintro e w13 ⟨rfl, Bx⟩
              clear S0 S1 S2 S3
              replace S := S.kept Bx
              replace hs1 := hs1.kept Bx
              replace B := SW.below1 B Bx
              clear Bx
              have ⟨S0, S1, S2, S3⟩ := S
              go_wp2_with fail
              refine (F4 _).mono ?_
              rintro e w14 ⟨rfl, Bx⟩
              clear S0 S1 S2 S3
              replace S := S.kept Bx
              replace hs1 := hs1.kept Bx
              replace B := SW.below1 B Bx
              clear Bx
              have F8 : ∀ w a, SW.Sn a w → Calls Tryd.prog 19 #[SW.spV sl sh] w fun e w' => e = .returned (.bool true) ∧ Below w.heap.size w w' := fun w a hs => by have := SW.spanOk_any sl sh a w hs; rw [hk] at this; exact this
              have ⟨S0, S1, S2, S3⟩ := S
              go_wp2_with fail
              refine (F8 _ sa hs1).mono ?_
              rintro e w15 ⟨rfl, Bx⟩
              clear S0 S1 S2 S3
              replace S := S.kept Bx
              replace hs1 := hs1.kept Bx
              replace B := SW.below1 B Bx
              clear Bx
              have ⟨S0, S1, S2, S3⟩ := S
              go_wp2
              go_ret
              exact ⟨rfl, B⟩
            · clear hva hvb ho
              have hv2 : (va != vb) = true := by simpa using hv
              have ⟨S0, S1, S2, S3⟩ := S
              go_wp2_with fail
              refine (F1 _).mono ?_
              rintro e w11 ⟨rfl, Bx⟩
              clear S0 S1 S2 S3
              replace S := S.kept Bx
              replace hs1 := hs1.kept Bx
              replace B := SW.below1 B Bx
              clear Bx
              have ⟨S0, S1, S2, S3⟩ := S
              go_wp2_with fail
              refine (F2 _ sa hs1).mono ?_
              rintro e w12 ⟨rfl, Bx⟩
              clear S0 S1 S2 S3
              replace S := S.kept Bx
              replace hs1 := hs1.kept Bx
              replace B := SW.below1 B Bx
              clear Bx
              have ⟨S0, S1, S2, S3⟩ := S
              go_wp2_with fail
              refine (F3 _).mono ?_
              rintro e w13 ⟨rfl, Bx⟩
              clear S0 S1 S2 S3
              replace S := S.kept Bx
              replace hs1 := hs1.kept Bx
              replace B := SW.below1 B Bx
              clear Bx
              have ⟨S0, S1, S2, S3⟩ := S
              go_wp2_with fail
              refine (F4 _).mono ?_
              rintro e w14 ⟨rfl, Bx⟩
              clear S0 S1 S2 S3
              replace S := S.kept Bx
              replace hs1 := hs1.kept Bx
              replace B := SW.below1 B Bx
              clear Bx
              have F8 : ∀ w a, SW.Sn a w → Calls Tryd.prog 19 #[SW.spV sl sh] w fun e w' => e = .returned (.bool true) ∧ Below w.heap.size w w' := fun w a hs => by have := SW.spanOk_any sl sh a w hs; rw [hk] at this; exact this
              have ⟨S0, S1, S2, S3⟩ := S
              go_wp2_with fail
              refine (F8 _ sa hs1).mono ?_
              rintro e w15 ⟨rfl, Bx⟩
              clear S0 S1 S2 S3
              replace S := S.kept Bx
              replace hs1 := hs1.kept Bx
              replace B := SW.below1 B Bx
              clear Bx
              have ⟨S0, S1, S2, S3⟩ := S
              go_wp2
              go_ret
              exact ⟨rfl, B⟩
    · obtain ⟨n, hn⟩ : ∃ n, n = SR.sureV sl sh pp yy := ⟨_, rfl⟩
      have F1 : ∀ w, Calls Tryd.prog 16 #[SW.spV sl sh, .int .i64 pp, .int .i64 yy] w fun e w' => e = .returned (.tuple #[.int .i64 n, .bool true]) ∧ Below w.heap.size w w' := fun w => by have := SW.sSureRound_any sl sh pp yy w; rw [ho, ← hn] at this; exact this
      have F2 : ∀ w a, SW.Sn a w → Calls Tryd.prog 17 #[SW.spV sl sh, .int .i64 pp, .int .i64 yy] w fun e w' => e = .returned (.tuple #[.int .i64 n, .bool true]) ∧ Below w.heap.size w w' := fun w a hs => by have := SW.sureRound_any sl sh pp yy a w hs; rw [ho, ← hn] at this; exact this
      obtain ⟨va, hva⟩ : ∃ va, va = NM.roundV sl pp yy := ⟨_, rfl⟩
      obtain ⟨vb, hvb⟩ : ∃ vb, vb = NM.roundV sh pp yy := ⟨_, rfl⟩
      obtain ⟨ba, hba⟩ : ∃ ba, ba = NM.roundB sl pp yy := ⟨_, rfl⟩
      obtain ⟨bb, hbb⟩ : ∃ bb, bb = NM.roundB sh pp yy := ⟨_, rfl⟩
      have F3 : ∀ w, Calls Tryd.prog 18 #[.int .i64 sl, .int .i64 pp, .int .i64 yy] w fun e w' => e = .returned (.tuple #[.int .i64 va, .bool ba]) ∧ Below w.heap.size w w' := fun w => by have := NW.numRound_any sl pp yy w; rw [← hva, ← hba] at this; exact this
      have F4 : ∀ w, Calls Tryd.prog 18 #[.int .i64 sh, .int .i64 pp, .int .i64 yy] w fun e w' => e = .returned (.tuple #[.int .i64 vb, .bool bb]) ∧ Below w.heap.size w w' := fun w => by have := NW.numRound_any sh pp yy w; rw [← hvb, ← hbb] at this; exact this
      clear hva hvb hba hbb hn ho
      have ⟨S0, S1, S2, S3⟩ := S
      go_wp2_with fail
      refine (F1 _).mono ?_
      rintro e w11 ⟨rfl, Bx⟩
      clear S0 S1 S2 S3
      replace S := S.kept Bx
      replace hs1 := hs1.kept Bx
      replace B := SW.below1 B Bx
      clear Bx
      have ⟨S0, S1, S2, S3⟩ := S
      go_wp2_with fail
      refine (F2 _ sa hs1).mono ?_
      rintro e w12 ⟨rfl, Bx⟩
      clear S0 S1 S2 S3
      replace S := S.kept Bx
      replace hs1 := hs1.kept Bx
      replace B := SW.below1 B Bx
      clear Bx
      have ⟨S0, S1, S2, S3⟩ := S
      go_wp2_with fail
      refine (F3 _).mono ?_
      rintro e w13 ⟨rfl, Bx⟩
      clear S0 S1 S2 S3
      replace S := S.kept Bx
      replace hs1 := hs1.kept Bx
      replace B := SW.below1 B Bx
      clear Bx
      have ⟨S0, S1, S2, S3⟩ := S
      go_wp2_with fail
      refine (F4 _).mono ?_
      rintro e w14 ⟨rfl, Bx⟩
      clear S0 S1 S2 S3
      replace S := S.kept Bx
      replace hs1 := hs1.kept Bx
      replace B := SW.below1 B Bx
      clear Bx
      have ⟨S0, S1, S2, S3⟩ := S
      go_wp2
      go_ret
      exact ⟨rfl, B⟩
  · go_enter Tryd.func6, Tryd.ntmps6
    go_wp2
    go_ret
    exact ⟨rfl, Below.refl _ _⟩

set_option maxRecDepth 100000 in
theorem lifted (os : Os) (started : os.Started) (H : Type) (enc : TypeId × Value → H) :
    ReturnsInHanded {} Tryd.checked os 6 .any (fun w args => (Rows.fnSureNotSpec.pre enc Tryd.prog Tryd.f6 [] false w args ∧ laidMetH Tryd.prog DR.laid1 w) ∧ sizedMet enc Tryd.prog Tryd.f6 (OpenSpec.ofChange Rows.fnSureNotSpec) false w args)
      (Rows.fnSureNotSpec.post enc Tryd.prog Tryd.f6 false true false false) := by
  refine returnsInHanded_of_change_and (C := Tryd.checked) (X := fun w _ => laidMetH Tryd.prog DR.laid1 w) (fun _ _ _ hh h => h.of_heap hh) own started (by kernel_rfl) Tryd.func6
    (ChangeSpec.witness_shaped (enc := enc) (C := Tryd.checked) (os := os) (X := fun w _ => laidMetH Tryd.prog DR.laid1 w) false (World.doorLaid Tryd.prog 400 os) #[.slice none 0 0] 8 rfl (World.shaped_of_RefB (by kernel_rfl) (by kernel_rfl)) (by kernel_rfl) (by kernel_rfl) (by kernel_rfl) (DR.door_met os _)) ?_
  intro W base args ds gs before hval0 hW _ _ hL _
  have hval : ∀ (j : Nat) t v, Tryd.f6.params[j]? = some t → args[j]? = some v → Value.okWide Tryd.prog W .any base t v := hval0
  have hW' := hW
  obtain ⟨p, q, hA0, hV, rfl, hfz, hnd⟩ := hW
  have hA : DataW.TrodAll enc Tryd.prog W 0 (fun _ => true) true Tryd.f6.params.toList args.toList ds p := hA0
  rw [Tryd.params6] at hA hval
  obtain ⟨v0, vs0, d0, ds0, p0, q0, hargs0, rfl, rfl, h0, r0⟩ := trodAll_cons hA
  obtain ⟨rfl, rfl, rfl⟩ := trodAll_nil r0
  obtain rfl : args = #[v0] := by cases args; simp_all
  obtain ⟨sa, hv, hs⟩ := DR.of_laid hL
  obtain ⟨rfl, rfl⟩ := DataW.TrodVars.unique hV (DR.vars_read enc hv _)
  obtain ⟨a0, len0, cap0, rfl⟩ := okWide_slice Tryd.underlying22 (hval 0 22 v0 rfl rfl)
  have k0 := h0
  have lt0 : ∀ x ∈ p0, x.block < W.heap.size := by obtain ⟨m, hm⟩ := k0; exact DataW.trod_lt m _ _ _ hm
  obtain ⟨z0, w0⟩ : ∃ zs, IsRow .u8 W a0 len0 cap0 zs := by
    obtain ⟨fuel, hf⟩ := h0
    rcases open_ints Tryd.underlying22 Tryd.underlying5 (by kernel_rfl) hf with ⟨hcs, _⟩ | ⟨x, l, c, zs, hcs, _, hl, hm, hz, _, hcell, hwz⟩
    · simp [Value.cells] at hcs
      obtain ⟨rfl, rfl, rfl⟩ := hcs
      exact ⟨[], .inl ⟨rfl, rfl, rfl, rfl⟩⟩
    · simp [Value.cells] at hcs
      obtain ⟨rfl, rfl, rfl⟩ := hcs
      exact ⟨zs, .inr ⟨_, rfl, hl, hm, by simpa using hz, hcell, hwz⟩⟩
  clear hA0 hval0
  refine (walk a0 len0 cap0 z0 sa W w0 hs).mono fun e W' ⟨he, bel⟩ => ?_
  subst he
  exact ⟨_, rfl, _, _, _, [], _, [.cell 0 0], hW', trodAll_mk1 (shut_bool Tryd.underlying4 _), (trodAll_cons_mk (Below.trod laidOut (by kernel_rfl) (of_decide_eq_true (by kernel_rfl)) k0 bel lt0) trodAll_mk0), DR.vars_read enc (DR.var_below hv bel) _, bel.frame _, fun h => by cases h⟩

theorem said : Rows.FnSureNotSaid :=
  OpenClaim.holds_of_wide 6 Tryd.f6 rfl rfl rfl rfl rfl rfl rfl ⟨rfl, rfl, rfl, rfl, rfl⟩ rfl rfl rfl rfl rfl (by kernel_rfl) Tryd.func6 (by kernel_rfl)
    (of_decide_eq_true (by kernel_rfl)) (by unfold Func.isWrapper; first | (rw [if_pos (by decide +kernel)]; kernel_rfl) | (rw [if_neg (by decide +kernel)]; exact ⟨rfl, rfl⟩))
    (fun os started H enc _ => lifted os started H enc)

theorem plain (f : FuncId) (fn : Func) (hf : Tryd.pinned.checked.prog.funcNamed "loop.example/alidade/laws.FnSureNot" = some f) (hfn : Tryd.pinned.checked.prog.funcs[f]? = some fn) :
    true = Tryd.pinned.checked.prog.looks [] ∧ ∀ (j : Nat) t, fn.params[j]? = some t → Tryd.pinned.checked.prog.wantsStandIn t = false := by
  obtain rfl : f = 6 := Option.some.inj ((show Tryd.prog.funcNamed "loop.example/alidade/laws.FnSureNot" = some 6 by kernel_rfl).symm.trans hf) |>.symm
  obtain rfl : fn = Tryd.f6 := (Option.some.inj (Tryd.func6.symm.trans hfn)).symm
  refine ⟨by kernel_rfl, fun j t ht => ?_⟩
  rw [Tryd.params6] at ht
  have hm : t ∈ [22] := by
    have := Array.mem_of_getElem? ht
    simpa using this
  have hall : ([22].all fun u => !Tryd.prog.wantsStandIn u) = true := by kernel_rfl
  exact (show Tryd.prog.wantsStandIn t = false by simpa using List.all_eq_true.1 hall t hm)

theorem card : Rows.FnSureNotCardSaid :=
  Claim7.holds_tied_plain_at .later [] _ _ _ _ said (fun _ h => by cases h) (by kernel_rfl) (fun _ h => by cases h) fnSureNot_row_tie rfl ⟨rfl, rfl⟩ (by kernel_rfl) rfl plain (by kernel_rfl)
end Go.Proofs.YtldogjldnckdmaeDoor.fnSureNot
namespace Go.Proofs.YtldogjldnckdmaeDoor
theorem fnSureNot_holds : Rows.FnSureNotCardSaid := fnSureNot.card
#print axioms fnSureNot_holds
end Go.Proofs.YtldogjldnckdmaeDoor
