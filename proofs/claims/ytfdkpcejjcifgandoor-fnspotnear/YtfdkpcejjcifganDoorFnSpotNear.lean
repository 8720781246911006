/-
  For every code of bytes the law of SpotNear returns true: of drawn places the program's SpotNear is the specification's; what is surely nearer is not farther, and a place is surely not nearer than itself. The package's variable errTooGreat is as the program's text lays it.
-/
import Derived.Test.YtfdkpcejjcifganDoorCards
import Derived.Test.YtfdkpcejjcifganDoorTie
import Derived.Test.YtfdkpcejjcifganDoorDoorKit
import Derived.WalkKit
import Derived.ProofKit
import Derived.OpenShut
import Derived.ShutString
import Derived.ChangeOld
import Derived.Below
import Derived.LaidMore
import Derived.Stop.Joined
import Derived.SevenTiedAt
import Derived.Test.YtfdkpcejjcifganDoorSpotMemoB
import Derived.Test.YtfdkpcejjcifganDoorDrawSpotB
import Derived.Test.YtfdkpcejjcifganDoorSpotBook
namespace Go.Proofs.YtfdkpcejjcifganDoor.fnSpotNear
open Go.ChangeShapes Go.WideShapes Go.ChangeAt Go.RowKit Go.Sort
set_option linter.unusedVariables false

theorem own : ownKnob Tryd.prog.godebug = none := by kernel_rfl
theorem laidOut : laidOutB Tryd.prog = true := by kernel_rfl
/-- What the walk is told of a slice of bytes that came in. -/
def IsRow (k : IntKind) (w : World) (a : Option Addr) (len cap : Nat) (zs : List Int) : Prop :=
  (a = none ∧ len = 0 ∧ cap = 0 ∧ zs = []) ∨
  ∃ x, a = some x ∧ len ≤ cap ∧ cap ≤ maxLen ∧ zs.length = cap ∧ (∀ i, i < zs.length → w.cell? (x.add i) = some (.int k (zs.getD i 0))) ∧ ∀ n ∈ zs, (Lit.int k n).wf = true
theorem add_none (b off i : Nat) : (⟨b, off, none⟩ : Addr).add i = ⟨b, off + i, none⟩ := by
  unfold Addr.add
  split
  · rename_i h
    subst h
    rfl
  · rfl
theorem src {w : World} {a : Option Addr} {len cap : Nat} {zs : List Int} (h : IsRow .u8 w a len cap zs) : DK.Src w a len cap := by
  rcases h with ⟨rfl, rfl, rfl, rfl⟩ | ⟨x, rfl, hl, hm, hz, hcell, hwz⟩
  · exact ⟨by omega, by omega, .inl rfl⟩
  · unfold maxLen at hm
    refine ⟨hl, by omega, ?_⟩
    by_cases h0 : len = 0
    · exact .inl h0
    · obtain ⟨b, off, spot⟩ := x
      have hc := hcell 0 (by omega)
      have hspot : spot = none := by simpa [Addr.add] using World.cell?_spot hc
      subst hspot
      refine .inr ⟨b, off, rfl, fun i hi => ?_⟩
      have hi2 : i < zs.length := by omega
      have hb := bounds_u8 (hwz (zs.getD i 0) (by simp [List.getD, hi2]))
      have hci := hcell i hi2
      rw [add_none] at hci
      exact ⟨zs.getD i 0, hb.1, hb.2, hci⟩

theorem okSq (g n a l : Int) : SM.okS (SI.sqL g n a l) (SI.sqH g n a l) = true := by
  have := SI.sq_bd g n a l
  have := SI.sq_le g n a l
  exact SM.okS_mk (by omega)
theorem same_swap {a l b m : Int} : SK.sameB b m a l = SK.sameB a l b m := by
  unfold SK.sameB
  by_cases z : a = b
  · subst z
    have e : (m == l) = (l == m) := by
      by_cases y : l = m
      · subst y; rfl
      · rw [beq_false_of_ne y, beq_false_of_ne (fun h => y h.symm)]
    rw [e]
    cases SK.okP a l <;> cases SK.okP a m <;> rfl
  · rw [beq_false_of_ne z, beq_false_of_ne (fun h => z h.symm)]
    cases SK.okP a l <;> cases SK.okP b m <;> rfl
theorem near_of {g n a l b m : Int} (h1 : SK.okP g n = true) (h2 : SK.okP a l = true) (h3 : SK.okP b m = true) : SK.nearV g n a l b m = if SK.sameB a l b m = true then 2 else if SI.sqH g n a l < SI.sqL g n b m then 1 else if SI.sqH g n b m ≤ SI.sqL g n a l then 2 else 3 := by
  unfold SK.nearV SR.lessV
  rw [h1, h2, h3]
  have e : SM.bothB (SI.sqL g n a l) (SI.sqH g n a l) (SI.sqL g n b m) (SI.sqH g n b m) = true := by unfold SM.bothB; rw [okSq, okSq]; rfl
  rw [e]
  cases SK.sameB a l b m <;> simp
theorem near_law {g n a l b m : Int} (h1 : SK.okP g n = true) (h2 : SK.okP a l = true) (h3 : SK.okP b m = true) :
    (SK.nearV g n a l b m = 1 ∧ SI.dsL g n a l ≤ SI.dsH g n b m ∧ SK.nearV g n b m a l = 2) ∨ (SK.nearV g n a l b m = 2 ∧ SI.dsL g n b m ≤ SI.dsH g n a l) ∨ SK.nearV g n a l b m = 3 := by
  have e := near_of h1 h2 h3
  have e' := near_of h1 h3 h2
  have l1 := SI.sq_le g n a l
  have l2 := SI.sq_le g n b m
  rw [e, e', same_swap (a := a)]
  cases he : SK.sameB a l b m
  · simp only [Bool.false_eq_true, if_false]
    by_cases c : SI.sqH g n a l < SI.sqL g n b m
    · refine Or.inl ⟨if_pos c, SI.near_ds (by omega), ?_⟩
      rw [if_neg (by omega), if_pos (by omega)]
    · rw [if_neg c]
      by_cases d : SI.sqH g n b m ≤ SI.sqL g n a l
      · exact Or.inr (Or.inl ⟨if_pos d, SI.near_ds (by omega)⟩)
      · exact Or.inr (Or.inr (if_neg d))
  · have z := SI.sq_from (e := g) (n := n) (SK.same_of he)
    exact Or.inr (Or.inl ⟨by simp, SI.near_ds (by omega)⟩)
theorem near_self {g n a l : Int} (h1 : SK.okP g n = true) (h2 : SK.okP a l = true) : SK.nearV g n a l a l = 2 := by
  rw [near_of h1 h2 h2]
  have e : SK.sameB a l a l = true := by unfold SK.sameB; rw [h2]; simp
  rw [if_pos e]
set_option maxHeartbeats 8000000 in

set_option maxHeartbeats 8000000 in
theorem walk (a0 : Option Addr) (len0 cap0 : Nat) (z0 : List Int) (sa : Addr) (w : World) (w0 : IsRow .u8 w a0 len0 cap0 z0) (hs : SW.Sn sa w) :
    Calls Tryd.prog 3 #[.slice a0 len0 cap0] w fun e w' => e = .returned (.bool true) ∧ Below w.heap.size w w' := by
  by_cases hl : (len0 : Int) ≤ 1048576
  · go_enter Tryd.func3, Tryd.ntmps3
    go_wp2_with fail
    refine (DS.drawSpotNear_any _ _ _ _ (src w0)).mono ?_
    rintro e v1 ⟨g, n, a, l, b, m, rfl, g0, g1, n0, n1, a0, a1, l0, l1, b0, b1, m0, m1, Bx⟩
    have B := Bx
    replace hs := hs.kept Bx
    clear Bx
    have O := SK.Box.new v1 (g) (n) 24
    replace B := SK.below1 B (SK.below_new v1 (.cells #[.int .i64 (g), .int .i64 (n)] 24))
    replace hs := hs.alloc (.cells #[.int .i64 (g), .int .i64 (n)] 24)
    replace O := O.alloc (.cells #[.int .i64 (a), .int .i64 (l)] 24)
    have P : SK.Box ((v1.alloc (.cells #[.int .i64 (g), .int .i64 (n)] 24)).alloc (.cells #[.int .i64 (a), .int .i64 (l)] 24)) (v1.heap.size + 1) (a) (l) := by simpa using SK.Box.new (v1.alloc (.cells #[.int .i64 (g), .int .i64 (n)] 24)) (a) (l) 24
    replace B := SK.below1 B (SK.below_new (v1.alloc (.cells #[.int .i64 (g), .int .i64 (n)] 24)) (.cells #[.int .i64 (a), .int .i64 (l)] 24))
    replace hs := hs.alloc (.cells #[.int .i64 (a), .int .i64 (l)] 24)
    replace O := O.alloc (.cells #[.int .i64 (b), .int .i64 (m)] 24)
    replace P := P.alloc (.cells #[.int .i64 (b), .int .i64 (m)] 24)
    have Q : SK.Box (((v1.alloc (.cells #[.int .i64 (g), .int .i64 (n)] 24)).alloc (.cells #[.int .i64 (a), .int .i64 (l)] 24)).alloc (.cells #[.int .i64 (b), .int .i64 (m)] 24)) (v1.heap.size + 1 + 1) (b) (m) := by simpa using SK.Box.new ((v1.alloc (.cells #[.int .i64 (g), .int .i64 (n)] 24)).alloc (.cells #[.int .i64 (a), .int .i64 (l)] 24)) (b) (m) 24
    replace B := SK.below1 B (SK.below_new ((v1.alloc (.cells #[.int .i64 (g), .int .i64 (n)] 24)).alloc (.cells #[.int .i64 (a), .int .i64 (l)] 24)) (.cells #[.int .i64 (b), .int .i64 (m)] 24))
    replace hs := hs.alloc (.cells #[.int .i64 (b), .int .i64 (m)] 24)
    cases h1 : SK.okP g n
    · have F1 : ∀ w, SW.Sn sa w → Calls Tryd.prog 5 #[SK.spV (g) (n), SK.spV (a) (l), SK.spV (b) (m)] w fun e w' => e = .returned (.int .i64 (SK.nearV g n a l b m)) ∧ Below w.heap.size w w' := fun w hs => by have := SK.spotNear_any (g) (n) (a) (l) (b) (m) sa w hs; exact this
      have F2 : ∀ w, Calls Tryd.prog 6 #[SK.spV (g) (n), SK.spV (a) (l), SK.spV (b) (m)] w fun e w' => e = .returned (.int .i64 (SK.nearV g n a l b m)) ∧ Below w.heap.size w w' := fun w => by have := SK.sSpotNear_any g n a l b m w; exact this
      have G0 : ∀ w, Calls Tryd.prog 7 #[SK.spV (g) (n)] w fun e w' => e = .returned (.bool false) ∧ Below w.heap.size w w' := fun w => by have := SK.sSpotOk_any g n w; rw [h1] at this; exact this
      clear h1
      generalize SK.nearV g n a l b m = v at *
      have ⟨Oc0, Oc1, Of0, Of1⟩ := O
      have ⟨Pc0, Pc1, Pf0, Pf1⟩ := P
      have ⟨Qc0, Qc1, Qf0, Qf1⟩ := Q
      go_wp2_with fail
      refine (F1 _ hs).mono ?_
      rintro e v2 ⟨rfl, Bx⟩
      clear Oc0 Oc1 Of0 Of1 Pc0 Pc1 Pf0 Pf1 Qc0 Qc1 Qf0 Qf1
      replace O := O.kept Bx
      replace P := P.kept Bx
      replace Q := Q.kept Bx
      replace B := SK.below1 B Bx
      replace hs := hs.kept Bx
      clear Bx
      have ⟨Oc0, Oc1, Of0, Of1⟩ := O
      have ⟨Pc0, Pc1, Pf0, Pf1⟩ := P
      have ⟨Qc0, Qc1, Qf0, Qf1⟩ := Q
      go_wp2_with fail
      refine (F2 _).mono ?_
      rintro e v3 ⟨rfl, Bx⟩
      clear Oc0 Oc1 Of0 Of1 Pc0 Pc1 Pf0 Pf1 Qc0 Qc1 Qf0 Qf1
      replace O := O.kept Bx
      replace P := P.kept Bx
      replace Q := Q.kept Bx
      replace B := SK.below1 B Bx
      replace hs := hs.kept Bx
      clear Bx
      have ⟨Oc0, Oc1, Of0, Of1⟩ := O
      have ⟨Pc0, Pc1, Pf0, Pf1⟩ := P
      have ⟨Qc0, Qc1, Qf0, Qf1⟩ := Q
      go_wp2_with fail
      refine (G0 _).mono ?_
      rintro e v4 ⟨rfl, Bx⟩
      clear Oc0 Oc1 Of0 Of1 Pc0 Pc1 Pf0 Pf1 Qc0 Qc1 Qf0 Qf1
      replace O := O.kept Bx
      replace P := P.kept Bx
      replace Q := Q.kept Bx
      replace B := SK.below1 B Bx
      replace hs := hs.kept Bx
      clear Bx
      have ⟨Oc0, Oc1, Of0, Of1⟩ := O
      have ⟨Pc0, Pc1, Pf0, Pf1⟩ := P
      have ⟨Qc0, Qc1, Qf0, Qf1⟩ := Q
      go_wp2_with fail
      refine (F2 _).mono ?_
      rintro e v5 ⟨rfl, Bx⟩
      clear Oc0 Oc1 Of0 Of1 Pc0 Pc1 Pf0 Pf1 Qc0 Qc1 Qf0 Qf1
      replace O := O.kept Bx
      replace P := P.kept Bx
      replace Q := Q.kept Bx
      replace B := SK.below1 B Bx
      replace hs := hs.kept Bx
      clear Bx
      have ⟨Oc0, Oc1, Of0, Of1⟩ := O
      have ⟨Pc0, Pc1, Pf0, Pf1⟩ := P
      have ⟨Qc0, Qc1, Qf0, Qf1⟩ := Q
      go_wp2
      go_ret
      exact ⟨rfl, B⟩
    · cases h2 : SK.okP a l
      · have F1 : ∀ w, SW.Sn sa w → Calls Tryd.prog 5 #[SK.spV (g) (n), SK.spV (a) (l), SK.spV (b) (m)] w fun e w' => e = .returned (.int .i64 (SK.nearV g n a l b m)) ∧ Below w.heap.size w w' := fun w hs => by have := SK.spotNear_any (g) (n) (a) (l) (b) (m) sa w hs; exact this
        have F2 : ∀ w, Calls Tryd.prog 6 #[SK.spV (g) (n), SK.spV (a) (l), SK.spV (b) (m)] w fun e w' => e = .returned (.int .i64 (SK.nearV g n a l b m)) ∧ Below w.heap.size w w' := fun w => by have := SK.sSpotNear_any g n a l b m w; exact this
        have G0 : ∀ w, Calls Tryd.prog 7 #[SK.spV (g) (n)] w fun e w' => e = .returned (.bool true) ∧ Below w.heap.size w w' := fun w => by have := SK.sSpotOk_any g n w; rw [h1] at this; exact this
        have G1 : ∀ w, Calls Tryd.prog 7 #[SK.spV (a) (l)] w fun e w' => e = .returned (.bool false) ∧ Below w.heap.size w w' := fun w => by have := SK.sSpotOk_any a l w; rw [h2] at this; exact this
        clear h1 h2
        generalize SK.nearV g n a l b m = v at *
        have ⟨Oc0, Oc1, Of0, Of1⟩ := O
        have ⟨Pc0, Pc1, Pf0, Pf1⟩ := P
        have ⟨Qc0, Qc1, Qf0, Qf1⟩ := Q
        go_wp2_with fail
        refine (F1 _ hs).mono ?_
        rintro e v2 ⟨rfl, Bx⟩
        clear Oc0 Oc1 Of0 Of1 Pc0 Pc1 Pf0 Pf1 Qc0 Qc1 Qf0 Qf1
        replace O := O.kept Bx
        replace P := P.kept Bx
        replace Q := Q.kept Bx
        replace B := SK.below1 B Bx
        replace hs := hs.kept Bx
        clear Bx
        have ⟨Oc0, Oc1, Of0, Of1⟩ := O
        have ⟨Pc0, Pc1, Pf0, Pf1⟩ := P
        have ⟨Qc0, Qc1, Qf0, Qf1⟩ := Q
        go_wp2_with fail
        refine (F2 _).mono ?_
        rintro e v3 ⟨rfl, Bx⟩
        clear Oc0 Oc1 Of0 Of1 Pc0 Pc1 Pf0 Pf1 Qc0 Qc1 Qf0 Qf1
        replace O := O.kept Bx
        replace P := P.kept Bx
        replace Q := Q.kept Bx
        replace B := SK.below1 B Bx
        replace hs := hs.kept Bx
        clear Bx
        have ⟨Oc0, Oc1, Of0, Of1⟩ := O
        have ⟨Pc0, Pc1, Pf0, Pf1⟩ := P
        have ⟨Qc0, Qc1, Qf0, Qf1⟩ := Q
        go_wp2_with fail
        refine (G0 _).mono ?_
        rintro e v4 ⟨rfl, Bx⟩
        clear Oc0 Oc1 Of0 Of1 Pc0 Pc1 Pf0 Pf1 Qc0 Qc1 Qf0 Qf1
        replace O := O.kept Bx
        replace P := P.kept Bx
        replace Q := Q.kept Bx
        replace B := SK.below1 B Bx
        replace hs := hs.kept Bx
        clear Bx
        have ⟨Oc0, Oc1, Of0, Of1⟩ := O
        have ⟨Pc0, Pc1, Pf0, Pf1⟩ := P
        have ⟨Qc0, Qc1, Qf0, Qf1⟩ := Q
        go_wp2_with fail
        refine (G1 _).mono ?_
        rintro e v5 ⟨rfl, Bx⟩
        clear Oc0 Oc1 Of0 Of1 Pc0 Pc1 Pf0 Pf1 Qc0 Qc1 Qf0 Qf1
        replace O := O.kept Bx
        replace P := P.kept Bx
        replace Q := Q.kept Bx
        replace B := SK.below1 B Bx
        replace hs := hs.kept Bx
        clear Bx
        have ⟨Oc0, Oc1, Of0, Of1⟩ := O
        have ⟨Pc0, Pc1, Pf0, Pf1⟩ := P
        have ⟨Qc0, Qc1, Qf0, Qf1⟩ := Q
        go_wp2_with fail
        refine (F2 _).mono ?_
        rintro e v6 ⟨rfl, Bx⟩
        clear Oc0 Oc1 Of0 Of1 Pc0 Pc1 Pf0 Pf1 Qc0 Qc1 Qf0 Qf1
        replace O := O.kept Bx
        replace P := P.kept Bx
        replace Q := Q.kept Bx
        replace B := SK.below1 B Bx
        replace hs := hs.kept Bx
        clear Bx
        have ⟨Oc0, Oc1, Of0, Of1⟩ := O
        have ⟨Pc0, Pc1, Pf0, Pf1⟩ := P
        have ⟨Qc0, Qc1, Qf0, Qf1⟩ := Q
        go_wp2
        go_ret
        exact ⟨rfl, B⟩
      · cases h3 : SK.okP b m
        · have F1 : ∀ w, SW.Sn sa w → Calls Tryd.prog 5 #[SK.spV (g) (n), SK.spV (a) (l), SK.spV (b) (m)] w fun e w' => e = .returned (.int .i64 (SK.nearV g n a l b m)) ∧ Below w.heap.size w w' := fun w hs => by have := SK.spotNear_any (g) (n) (a) (l) (b) (m) sa w hs; exact this
          have F2 : ∀ w, Calls Tryd.prog 6 #[SK.spV (g) (n), SK.spV (a) (l), SK.spV (b) (m)] w fun e w' => e = .returned (.int .i64 (SK.nearV g n a l b m)) ∧ Below w.heap.size w w' := fun w => by have := SK.sSpotNear_any g n a l b m w; exact this
          have G0 : ∀ w, Calls Tryd.prog 7 #[SK.spV (g) (n)] w fun e w' => e = .returned (.bool true) ∧ Below w.heap.size w w' := fun w => by have := SK.sSpotOk_any g n w; rw [h1] at this; exact this
          have G1 : ∀ w, Calls Tryd.prog 7 #[SK.spV (a) (l)] w fun e w' => e = .returned (.bool true) ∧ Below w.heap.size w w' := fun w => by have := SK.sSpotOk_any a l w; rw [h2] at this; exact this
          have G2 : ∀ w, Calls Tryd.prog 7 #[SK.spV (b) (m)] w fun e w' => e = .returned (.bool false) ∧ Below w.heap.size w w' := fun w => by have := SK.sSpotOk_any b m w; rw [h3] at this; exact this
          clear h1 h2 h3
          generalize SK.nearV g n a l b m = v at *
          have ⟨Oc0, Oc1, Of0, Of1⟩ := O
          have ⟨Pc0, Pc1, Pf0, Pf1⟩ := P
          have ⟨Qc0, Qc1, Qf0, Qf1⟩ := Q
          go_wp2_with fail
          refine (F1 _ hs).mono ?_
          rintro e v2 ⟨rfl, Bx⟩
          clear Oc0 Oc1 Of0 Of1 Pc0 Pc1 Pf0 Pf1 Qc0 Qc1 Qf0 Qf1
          replace O := O.kept Bx
          replace P := P.kept Bx
          replace Q := Q.kept Bx
          replace B := SK.below1 B Bx
          replace hs := hs.kept Bx
          clear Bx
          have ⟨Oc0, Oc1, Of0, Of1⟩ := O
          have ⟨Pc0, Pc1, Pf0, Pf1⟩ := P
          have ⟨Qc0, Qc1, Qf0, Qf1⟩ := Q
          go_wp2_with fail
          refine (F2 _).mono ?_
          rintro e v3 ⟨rfl, Bx⟩
          clear Oc0 Oc1 Of0 Of1 Pc0 Pc1 Pf0 Pf1 Qc0 Qc1 Qf0 Qf1
          replace O := O.kept Bx
          replace P := P.kept Bx
          replace Q := Q.kept Bx
          replace B := SK.below1 B Bx
          replace hs := hs.kept Bx
          clear Bx
          have ⟨Oc0, Oc1, Of0, Of1⟩ := O
          have ⟨Pc0, Pc1, Pf0, Pf1⟩ := P
          have ⟨Qc0, Qc1, Qf0, Qf1⟩ := Q
          go_wp2_with fail
          refine (G0 _).mono ?_
          rintro e v4 ⟨rfl, Bx⟩
          clear Oc0 Oc1 Of0 Of1 Pc0 Pc1 Pf0 Pf1 Qc0 Qc1 Qf0 Qf1
          replace O := O.kept Bx
          replace P := P.kept Bx
          replace Q := Q.kept Bx
          replace B := SK.below1 B Bx
          replace hs := hs.kept Bx
          clear Bx
          have ⟨Oc0, Oc1, Of0, Of1⟩ := O
          have ⟨Pc0, Pc1, Pf0, Pf1⟩ := P
          have ⟨Qc0, Qc1, Qf0, Qf1⟩ := Q
          go_wp2_with fail
          refine (G1 _).mono ?_
          rintro e v5 ⟨rfl, Bx⟩
          clear Oc0 Oc1 Of0 Of1 Pc0 Pc1 Pf0 Pf1 Qc0 Qc1 Qf0 Qf1
          replace O := O.kept Bx
          replace P := P.kept Bx
          replace Q := Q.kept Bx
          replace B := SK.below1 B Bx
          replace hs := hs.kept Bx
          clear Bx
          have ⟨Oc0, Oc1, Of0, Of1⟩ := O
          have ⟨Pc0, Pc1, Pf0, Pf1⟩ := P
          have ⟨Qc0, Qc1, Qf0, Qf1⟩ := Q
          go_wp2_with fail
          refine (G2 _).mono ?_
          rintro e v6 ⟨rfl, Bx⟩
          clear Oc0 Oc1 Of0 Of1 Pc0 Pc1 Pf0 Pf1 Qc0 Qc1 Qf0 Qf1
          replace O := O.kept Bx
          replace P := P.kept Bx
          replace Q := Q.kept Bx
          replace B := SK.below1 B Bx
          replace hs := hs.kept Bx
          clear Bx
          have ⟨Oc0, Oc1, Of0, Of1⟩ := O
          have ⟨Pc0, Pc1, Pf0, Pf1⟩ := P
          have ⟨Qc0, Qc1, Qf0, Qf1⟩ := Q
          go_wp2_with fail
          refine (F2 _).mono ?_
          rintro e v7 ⟨rfl, Bx⟩
          clear Oc0 Oc1 Of0 Of1 Pc0 Pc1 Pf0 Pf1 Qc0 Qc1 Qf0 Qf1
          replace O := O.kept Bx
          replace P := P.kept Bx
          replace Q := Q.kept Bx
          replace B := SK.below1 B Bx
          replace hs := hs.kept Bx
          clear Bx
          have ⟨Oc0, Oc1, Of0, Of1⟩ := O
          have ⟨Pc0, Pc1, Pf0, Pf1⟩ := P
          have ⟨Qc0, Qc1, Qf0, Qf1⟩ := Q
          go_wp2
          go_ret
          exact ⟨rfl, B⟩
        · rcases near_law h1 h2 h3 with ⟨nv, fg, bk⟩ | ⟨nv, gf⟩ | nv
          · have F1 : ∀ w, SW.Sn sa w → Calls Tryd.prog 5 #[SK.spV (g) (n), SK.spV (a) (l), SK.spV (b) (m)] w fun e w' => e = .returned (.int .i64 (1)) ∧ Below w.heap.size w w' := fun w hs => by have := SK.spotNear_any (g) (n) (a) (l) (b) (m) sa w hs; rw [nv] at this; exact this
            have F2 : ∀ w, Calls Tryd.prog 6 #[SK.spV (g) (n), SK.spV (a) (l), SK.spV (b) (m)] w fun e w' => e = .returned (.int .i64 (1)) ∧ Below w.heap.size w w' := fun w => by have := SK.sSpotNear_any g n a l b m w; rw [nv] at this; exact this
            have G0 : ∀ w, Calls Tryd.prog 7 #[SK.spV (g) (n)] w fun e w' => e = .returned (.bool true) ∧ Below w.heap.size w w' := fun w => by have := SK.sSpotOk_any g n w; rw [h1] at this; exact this
            have G1 : ∀ w, Calls Tryd.prog 7 #[SK.spV (a) (l)] w fun e w' => e = .returned (.bool true) ∧ Below w.heap.size w w' := fun w => by have := SK.sSpotOk_any a l w; rw [h2] at this; exact this
            have G2 : ∀ w, Calls Tryd.prog 7 #[SK.spV (b) (m)] w fun e w' => e = .returned (.bool true) ∧ Below w.heap.size w w' := fun w => by have := SK.sSpotOk_any b m w; rw [h3] at this; exact this
            have hy : (SK.okP g n && SK.okP a l) = true := by rw [h1, h2]; rfl
            have hz : (SK.okP g n && SK.okP b m) = true := by rw [h1, h3]; rfl
            have F4 : ∀ w, SW.Sn sa w → Calls Tryd.prog 8 #[SK.spV (g) (n), SK.spV (a) (l)] w fun e w' => e = .returned (.tuple #[SK.spV (SI.dsL g n a l) (SI.dsH g n a l), .bool true]) ∧ Below w.heap.size w w' := fun w hs => by have := SK.spotDist_any (g) (n) (a) (l) sa w hs; rw [hy] at this; simp only [SM.sel] at this; exact this
            have F5 : ∀ w, SW.Sn sa w → Calls Tryd.prog 8 #[SK.spV (g) (n), SK.spV (b) (m)] w fun e w' => e = .returned (.tuple #[SK.spV (SI.dsL g n b m) (SI.dsH g n b m), .bool true]) ∧ Below w.heap.size w w' := fun w hs => by have := SK.spotDist_any (g) (n) (b) (m) sa w hs; rw [hz] at this; simp only [SM.sel] at this; exact this
            have F6 : ∀ w, SW.Sn sa w → Calls Tryd.prog 5 #[SK.spV (g) (n), SK.spV (b) (m), SK.spV (a) (l)] w fun e w' => e = .returned (.int .i64 (2)) ∧ Below w.heap.size w w' := fun w hs => by have := SK.spotNear_any (g) (n) (b) (m) (a) (l) sa w hs; rw [bk] at this; exact this
            have F7 : ∀ w, SW.Sn sa w → Calls Tryd.prog 5 #[SK.spV (g) (n), SK.spV (a) (l), SK.spV (a) (l)] w fun e w' => e = .returned (.int .i64 (2)) ∧ Below w.heap.size w w' := fun w hs => by have := SK.spotNear_any (g) (n) (a) (l) (a) (l) sa w hs; rw [near_self h1 h2] at this; exact this
            clear hy hz h1 h2 h3 nv bk
            generalize SI.dsL g n a l = p at *
            generalize SI.dsH g n a l = q at *
            generalize SI.dsL g n b m = r at *
            generalize SI.dsH g n b m = t at *
            have ⟨Oc0, Oc1, Of0, Of1⟩ := O
            have ⟨Pc0, Pc1, Pf0, Pf1⟩ := P
            have ⟨Qc0, Qc1, Qf0, Qf1⟩ := Q
            go_wp2_with fail
            refine (F1 _ hs).mono ?_
            rintro e v2 ⟨rfl, Bx⟩
            clear Oc0 Oc1 Of0 Of1 Pc0 Pc1 Pf0 Pf1 Qc0 Qc1 Qf0 Qf1
            replace O := O.kept Bx
            replace P := P.kept Bx
            replace Q := Q.kept Bx
            replace B := SK.below1 B Bx
            replace hs := hs.kept Bx
            clear Bx
            have ⟨Oc0, Oc1, Of0, Of1⟩ := O
            have ⟨Pc0, Pc1, Pf0, Pf1⟩ := P
            have ⟨Qc0, Qc1, Qf0, Qf1⟩ := Q
            go_wp2_with fail
            refine (F2 _).mono ?_
            rintro e v3 ⟨rfl, Bx⟩
            clear Oc0 Oc1 Of0 Of1 Pc0 Pc1 Pf0 Pf1 Qc0 Qc1 Qf0 Qf1
            replace O := O.kept Bx
            replace P := P.kept Bx
            replace Q := Q.kept Bx
            replace B := SK.below1 B Bx
            replace hs := hs.kept Bx
            clear Bx
            have ⟨Oc0, Oc1, Of0, Of1⟩ := O
            have ⟨Pc0, Pc1, Pf0, Pf1⟩ := P
            have ⟨Qc0, Qc1, Qf0, Qf1⟩ := Q
            go_wp2_with fail
            refine (G0 _).mono ?_
            rintro e v4 ⟨rfl, Bx⟩
            clear Oc0 Oc1 Of0 Of1 Pc0 Pc1 Pf0 Pf1 Qc0 Qc1 Qf0 Qf1
            replace O := O.kept Bx
            replace P := P.kept Bx
            replace Q := Q.kept Bx
            replace B := SK.below1 B Bx
            replace hs := hs.kept Bx
            clear Bx
            have ⟨Oc0, Oc1, Of0, Of1⟩ := O
            have ⟨Pc0, Pc1, Pf0, Pf1⟩ := P
            have ⟨Qc0, Qc1, Qf0, Qf1⟩ := Q
            go_wp2_with fail
            refine (G1 _).mono ?_
            rintro e v5 ⟨rfl, Bx⟩
            clear Oc0 Oc1 Of0 Of1 Pc0 Pc1 Pf0 Pf1 Qc0 Qc1 Qf0 Qf1
            replace O := O.kept Bx
            replace P := P.kept Bx
            replace Q := Q.kept Bx
            replace B := SK.below1 B Bx
            replace hs := hs.kept Bx
            clear Bx
            have ⟨Oc0, Oc1, Of0, Of1⟩ := O
            have ⟨Pc0, Pc1, Pf0, Pf1⟩ := P
            have ⟨Qc0, Qc1, Qf0, Qf1⟩ := Q
            go_wp2_with fail
            refine (G2 _).mono ?_
            rintro e v6 ⟨rfl, Bx⟩
            clear Oc0 Oc1 Of0 Of1 Pc0 Pc1 Pf0 Pf1 Qc0 Qc1 Qf0 Qf1
            replace O := O.kept Bx
            replace P := P.kept Bx
            replace Q := Q.kept Bx
            replace B := SK.below1 B Bx
            replace hs := hs.kept Bx
            clear Bx
            have ⟨Oc0, Oc1, Of0, Of1⟩ := O
            have ⟨Pc0, Pc1, Pf0, Pf1⟩ := P
            have ⟨Qc0, Qc1, Qf0, Qf1⟩ := Q
            go_wp2_with fail
            refine (F4 _ hs).mono ?_
            rintro e v7 ⟨rfl, Bx⟩
            clear Oc0 Oc1 Of0 Of1 Pc0 Pc1 Pf0 Pf1 Qc0 Qc1 Qf0 Qf1
            replace O := O.kept Bx
            replace P := P.kept Bx
            replace Q := Q.kept Bx
            replace B := SK.below1 B Bx
            replace hs := hs.kept Bx
            clear Bx
            replace O := O.alloc (.cells #[.int .i64 (p), .int .i64 (q)] 30)
            replace P := P.alloc (.cells #[.int .i64 (p), .int .i64 (q)] 30)
            replace Q := Q.alloc (.cells #[.int .i64 (p), .int .i64 (q)] 30)
            have S1 := SK.Box.new v7 (p) (q) 30
            replace B := SK.below1 B (SK.below_new v7 (.cells #[.int .i64 (p), .int .i64 (q)] 30))
            replace hs := hs.alloc (.cells #[.int .i64 (p), .int .i64 (q)] 30)
            have ⟨Oc0, Oc1, Of0, Of1⟩ := O
            have ⟨Pc0, Pc1, Pf0, Pf1⟩ := P
            have ⟨Qc0, Qc1, Qf0, Qf1⟩ := Q
            have ⟨S1c0, S1c1, S1f0, S1f1⟩ := S1
            go_wp2_with fail
            refine (F5 _ hs).mono ?_
            rintro e v8 ⟨rfl, Bx⟩
            clear Oc0 Oc1 Of0 Of1 Pc0 Pc1 Pf0 Pf1 Qc0 Qc1 Qf0 Qf1 S1c0 S1c1 S1f0 S1f1
            replace O := O.kept Bx
            replace P := P.kept Bx
            replace Q := Q.kept Bx
            replace S1 := S1.kept Bx
            replace B := SK.below1 B Bx
            replace hs := hs.kept Bx
            clear Bx
            replace O := O.alloc (.cells #[.int .i64 (r), .int .i64 (t)] 30)
            replace P := P.alloc (.cells #[.int .i64 (r), .int .i64 (t)] 30)
            replace Q := Q.alloc (.cells #[.int .i64 (r), .int .i64 (t)] 30)
            replace S1 := S1.alloc (.cells #[.int .i64 (r), .int .i64 (t)] 30)
            have S2 := SK.Box.new v8 (r) (t) 30
            replace B := SK.below1 B (SK.below_new v8 (.cells #[.int .i64 (r), .int .i64 (t)] 30))
            replace hs := hs.alloc (.cells #[.int .i64 (r), .int .i64 (t)] 30)
            have ⟨Oc0, Oc1, Of0, Of1⟩ := O
            have ⟨Pc0, Pc1, Pf0, Pf1⟩ := P
            have ⟨Qc0, Qc1, Qf0, Qf1⟩ := Q
            have ⟨S1c0, S1c1, S1f0, S1f1⟩ := S1
            have ⟨S2c0, S2c1, S2f0, S2f1⟩ := S2
            go_wp2_with fail
            refine (F6 _ hs).mono ?_
            rintro e v9 ⟨rfl, Bx⟩
            clear Oc0 Oc1 Of0 Of1 Pc0 Pc1 Pf0 Pf1 Qc0 Qc1 Qf0 Qf1 S1c0 S1c1 S1f0 S1f1 S2c0 S2c1 S2f0 S2f1
            replace O := O.kept Bx
            replace P := P.kept Bx
            replace Q := Q.kept Bx
            replace S1 := S1.kept Bx
            replace S2 := S2.kept Bx
            replace B := SK.below1 B Bx
            replace hs := hs.kept Bx
            clear Bx
            have ⟨Oc0, Oc1, Of0, Of1⟩ := O
            have ⟨Pc0, Pc1, Pf0, Pf1⟩ := P
            have ⟨Qc0, Qc1, Qf0, Qf1⟩ := Q
            have ⟨S1c0, S1c1, S1f0, S1f1⟩ := S1
            have ⟨S2c0, S2c1, S2f0, S2f1⟩ := S2
            go_wp2_with fail
            refine (F7 _ hs).mono ?_
            rintro e v10 ⟨rfl, Bx⟩
            clear Oc0 Oc1 Of0 Of1 Pc0 Pc1 Pf0 Pf1 Qc0 Qc1 Qf0 Qf1 S1c0 S1c1 S1f0 S1f1 S2c0 S2c1 S2f0 S2f1
            replace O := O.kept Bx
            replace P := P.kept Bx
            replace Q := Q.kept Bx
            replace S1 := S1.kept Bx
            replace S2 := S2.kept Bx
            replace B := SK.below1 B Bx
            replace hs := hs.kept Bx
            clear Bx
            have ⟨Oc0, Oc1, Of0, Of1⟩ := O
            have ⟨Pc0, Pc1, Pf0, Pf1⟩ := P
            have ⟨Qc0, Qc1, Qf0, Qf1⟩ := Q
            have ⟨S1c0, S1c1, S1f0, S1f1⟩ := S1
            have ⟨S2c0, S2c1, S2f0, S2f1⟩ := S2
            go_wp2
            go_ret
            exact ⟨rfl, B⟩
          · have F1 : ∀ w, SW.Sn sa w → Calls Tryd.prog 5 #[SK.spV (g) (n), SK.spV (a) (l), SK.spV (b) (m)] w fun e w' => e = .returned (.int .i64 (2)) ∧ Below w.heap.size w w' := fun w hs => by have := SK.spotNear_any (g) (n) (a) (l) (b) (m) sa w hs; rw [nv] at this; exact this
            have F2 : ∀ w, Calls Tryd.prog 6 #[SK.spV (g) (n), SK.spV (a) (l), SK.spV (b) (m)] w fun e w' => e = .returned (.int .i64 (2)) ∧ Below w.heap.size w w' := fun w => by have := SK.sSpotNear_any g n a l b m w; rw [nv] at this; exact this
            have G0 : ∀ w, Calls Tryd.prog 7 #[SK.spV (g) (n)] w fun e w' => e = .returned (.bool true) ∧ Below w.heap.size w w' := fun w => by have := SK.sSpotOk_any g n w; rw [h1] at this; exact this
            have G1 : ∀ w, Calls Tryd.prog 7 #[SK.spV (a) (l)] w fun e w' => e = .returned (.bool true) ∧ Below w.heap.size w w' := fun w => by have := SK.sSpotOk_any a l w; rw [h2] at this; exact this
            have G2 : ∀ w, Calls Tryd.prog 7 #[SK.spV (b) (m)] w fun e w' => e = .returned (.bool true) ∧ Below w.heap.size w w' := fun w => by have := SK.sSpotOk_any b m w; rw [h3] at this; exact this
            have hy : (SK.okP g n && SK.okP a l) = true := by rw [h1, h2]; rfl
            have hz : (SK.okP g n && SK.okP b m) = true := by rw [h1, h3]; rfl
            have F4 : ∀ w, SW.Sn sa w → Calls Tryd.prog 8 #[SK.spV (g) (n), SK.spV (a) (l)] w fun e w' => e = .returned (.tuple #[SK.spV (SI.dsL g n a l) (SI.dsH g n a l), .bool true]) ∧ Below w.heap.size w w' := fun w hs => by have := SK.spotDist_any (g) (n) (a) (l) sa w hs; rw [hy] at this; simp only [SM.sel] at this; exact this
            have F5 : ∀ w, SW.Sn sa w → Calls Tryd.prog 8 #[SK.spV (g) (n), SK.spV (b) (m)] w fun e w' => e = .returned (.tuple #[SK.spV (SI.dsL g n b m) (SI.dsH g n b m), .bool true]) ∧ Below w.heap.size w w' := fun w hs => by have := SK.spotDist_any (g) (n) (b) (m) sa w hs; rw [hz] at this; simp only [SM.sel] at this; exact this
            have F6 : ∀ w, SW.Sn sa w → Calls Tryd.prog 5 #[SK.spV (g) (n), SK.spV (b) (m), SK.spV (a) (l)] w fun e w' => e = .returned (.int .i64 (SK.nearV g n b m a l)) ∧ Below w.heap.size w w' := fun w hs => by have := SK.spotNear_any (g) (n) (b) (m) (a) (l) sa w hs; exact this
            have F7 : ∀ w, SW.Sn sa w → Calls Tryd.prog 5 #[SK.spV (g) (n), SK.spV (a) (l), SK.spV (a) (l)] w fun e w' => e = .returned (.int .i64 (2)) ∧ Below w.heap.size w w' := fun w hs => by have := SK.spotNear_any (g) (n) (a) (l) (a) (l) sa w hs; rw [near_self h1 h2] at this; exact this
            clear hy hz h1 h2 h3 nv
            generalize SI.dsL g n a l = p at *
            generalize SI.dsH g n a l = q at *
            generalize SI.dsL g n b m = r at *
            generalize SI.dsH g n b m = t at *
            generalize SK.nearV g n b m a l = u at *
            have ⟨Oc0, Oc1, Of0, Of1⟩ := O
            have ⟨Pc0, Pc1, Pf0, Pf1⟩ := P
            have ⟨Qc0, Qc1, Qf0, Qf1⟩ := Q
            go_wp2_with fail
            refine (F1 _ hs).mono ?_
            rintro e v2 ⟨rfl, Bx⟩
            clear Oc0 Oc1 Of0 Of1 Pc0 Pc1 Pf0 Pf1 Qc0 Qc1 Qf0 Qf1
            replace O := O.kept Bx
            replace P := P.kept Bx
            replace Q := Q.kept Bx
            replace B := SK.below1 B Bx
            replace hs := hs.kept Bx
            clear Bx
            have ⟨Oc0, Oc1, Of0, Of1⟩ := O
            have ⟨Pc0, Pc1, Pf0, Pf1⟩ := P
            have ⟨Qc0, Qc1, Qf0, Qf1⟩ := Q
            go_wp2_with fail
            refine (F2 _).mono ?_
            rintro e v3 ⟨rfl, Bx⟩
            clear Oc0 Oc1 Of0 Of1 Pc0 Pc1 Pf0 Pf1 Qc0 Qc1 Qf0 Qf1
            replace O := O.kept Bx
            replace P := P.kept Bx
            replace Q := Q.kept Bx
            replace B := SK.below1 B Bx
            replace hs := hs.kept Bx
            clear Bx
            have ⟨Oc0, Oc1, Of0, Of1⟩ := O
            have ⟨Pc0, Pc1, Pf0, Pf1⟩ := P
            have ⟨Qc0, Qc1, Qf0, Qf1⟩ := Q
            go_wp2_with fail
            refine (G0 _).mono ?_
            rintro e v4 ⟨rfl, Bx⟩
            clear Oc0 Oc1 Of0 Of1 Pc0 Pc1 Pf0 Pf1 Qc0 Qc1 Qf0 Qf1
            replace O := O.kept Bx
            replace P := P.kept Bx
            replace Q := Q.kept Bx
            replace B := SK.below1 B Bx
            replace hs := hs.kept Bx
            clear Bx
            have ⟨Oc0, Oc1, Of0, Of1⟩ := O
            have ⟨Pc0, Pc1, Pf0, Pf1⟩ := P
            have ⟨Qc0, Qc1, Qf0, Qf1⟩ := Q
            go_wp2_with fail
            refine (G1 _).mono ?_
            rintro e v5 ⟨rfl, Bx⟩
            clear Oc0 Oc1 Of0 Of1 Pc0 Pc1 Pf0 Pf1 Qc0 Qc1 Qf0 Qf1
            replace O := O.kept Bx
            replace P := P.kept Bx
            replace Q := Q.kept Bx
            replace B := SK.below1 B Bx
            replace hs := hs.kept Bx
            clear Bx
            have ⟨Oc0, Oc1, Of0, Of1⟩ := O
            have ⟨Pc0, Pc1, Pf0, Pf1⟩ := P
            have ⟨Qc0, Qc1, Qf0, Qf1⟩ := Q
            go_wp2_with fail
            refine (G2 _).mono ?_
            rintro e v6 ⟨rfl, Bx⟩
            clear Oc0 Oc1 Of0 Of1 Pc0 Pc1 Pf0 Pf1 Qc0 Qc1 Qf0 Qf1
            replace O := O.kept Bx
            replace P := P.kept Bx
            replace Q := Q.kept Bx
            replace B := SK.below1 B Bx
            replace hs := hs.kept Bx
            clear Bx
            have ⟨Oc0, Oc1, Of0, Of1⟩ := O
            have ⟨Pc0, Pc1, Pf0, Pf1⟩ := P
            have ⟨Qc0, Qc1, Qf0, Qf1⟩ := Q
            go_wp2_with fail
            refine (F4 _ hs).mono ?_
            rintro e v7 ⟨rfl, Bx⟩
            clear Oc0 Oc1 Of0 Of1 Pc0 Pc1 Pf0 Pf1 Qc0 Qc1 Qf0 Qf1
            replace O := O.kept Bx
            replace P := P.kept Bx
            replace Q := Q.kept Bx
            replace B := SK.below1 B Bx
            replace hs := hs.kept Bx
            clear Bx
            replace O := O.alloc (.cells #[.int .i64 (p), .int .i64 (q)] 30)
            replace P := P.alloc (.cells #[.int .i64 (p), .int .i64 (q)] 30)
            replace Q := Q.alloc (.cells #[.int .i64 (p), .int .i64 (q)] 30)
            have S1 := SK.Box.new v7 (p) (q) 30
            replace B := SK.below1 B (SK.below_new v7 (.cells #[.int .i64 (p), .int .i64 (q)] 30))
            replace hs := hs.alloc (.cells #[.int .i64 (p), .int .i64 (q)] 30)
            have ⟨Oc0, Oc1, Of0, Of1⟩ := O
            have ⟨Pc0, Pc1, Pf0, Pf1⟩ := P
            have ⟨Qc0, Qc1, Qf0, Qf1⟩ := Q
            have ⟨S1c0, S1c1, S1f0, S1f1⟩ := S1
            go_wp2_with fail
            refine (F5 _ hs).mono ?_
            rintro e v8 ⟨rfl, Bx⟩
            clear Oc0 Oc1 Of0 Of1 Pc0 Pc1 Pf0 Pf1 Qc0 Qc1 Qf0 Qf1 S1c0 S1c1 S1f0 S1f1
            replace O := O.kept Bx
            replace P := P.kept Bx
            replace Q := Q.kept Bx
            replace S1 := S1.kept Bx
            replace B := SK.below1 B Bx
            replace hs := hs.kept Bx
            clear Bx
            replace O := O.alloc (.cells #[.int .i64 (r), .int .i64 (t)] 30)
            replace P := P.alloc (.cells #[.int .i64 (r), .int .i64 (t)] 30)
            replace Q := Q.alloc (.cells #[.int .i64 (r), .int .i64 (t)] 30)
            replace S1 := S1.alloc (.cells #[.int .i64 (r), .int .i64 (t)] 30)
            have S2 := SK.Box.new v8 (r) (t) 30
            replace B := SK.below1 B (SK.below_new v8 (.cells #[.int .i64 (r), .int .i64 (t)] 30))
            replace hs := hs.alloc (.cells #[.int .i64 (r), .int .i64 (t)] 30)
            have ⟨Oc0, Oc1, Of0, Of1⟩ := O
            have ⟨Pc0, Pc1, Pf0, Pf1⟩ := P
            have ⟨Qc0, Qc1, Qf0, Qf1⟩ := Q
            have ⟨S1c0, S1c1, S1f0, S1f1⟩ := S1
            have ⟨S2c0, S2c1, S2f0, S2f1⟩ := S2
            go_wp2_with fail
            refine (F6 _ hs).mono ?_
            rintro e v9 ⟨rfl, Bx⟩
            clear Oc0 Oc1 Of0 Of1 Pc0 Pc1 Pf0 Pf1 Qc0 Qc1 Qf0 Qf1 S1c0 S1c1 S1f0 S1f1 S2c0 S2c1 S2f0 S2f1
            replace O := O.kept Bx
            replace P := P.kept Bx
            replace Q := Q.kept Bx
            replace S1 := S1.kept Bx
            replace S2 := S2.kept Bx
            replace B := SK.below1 B Bx
            replace hs := hs.kept Bx
            clear Bx
            have ⟨Oc0, Oc1, Of0, Of1⟩ := O
            have ⟨Pc0, Pc1, Pf0, Pf1⟩ := P
            have ⟨Qc0, Qc1, Qf0, Qf1⟩ := Q
            have ⟨S1c0, S1c1, S1f0, S1f1⟩ := S1
            have ⟨S2c0, S2c1, S2f0, S2f1⟩ := S2
            go_wp2_with fail
            refine (F7 _ hs).mono ?_
            rintro e v10 ⟨rfl, Bx⟩
            clear Oc0 Oc1 Of0 Of1 Pc0 Pc1 Pf0 Pf1 Qc0 Qc1 Qf0 Qf1 S1c0 S1c1 S1f0 S1f1 S2c0 S2c1 S2f0 S2f1
            replace O := O.kept Bx
            replace P := P.kept Bx
            replace Q := Q.kept Bx
            replace S1 := S1.kept Bx
            replace S2 := S2.kept Bx
            replace B := SK.below1 B Bx
            replace hs := hs.kept Bx
            clear Bx
            have ⟨Oc0, Oc1, Of0, Of1⟩ := O
            have ⟨Pc0, Pc1, Pf0, Pf1⟩ := P
            have ⟨Qc0, Qc1, Qf0, Qf1⟩ := Q
            have ⟨S1c0, S1c1, S1f0, S1f1⟩ := S1
            have ⟨S2c0, S2c1, S2f0, S2f1⟩ := S2
            go_wp2
            go_ret
            exact ⟨rfl, B⟩
          · have F1 : ∀ w, SW.Sn sa w → Calls Tryd.prog 5 #[SK.spV (g) (n), SK.spV (a) (l), SK.spV (b) (m)] w fun e w' => e = .returned (.int .i64 (3)) ∧ Below w.heap.size w w' := fun w hs => by have := SK.spotNear_any (g) (n) (a) (l) (b) (m) sa w hs; rw [nv] at this; exact this
            have F2 : ∀ w, Calls Tryd.prog 6 #[SK.spV (g) (n), SK.spV (a) (l), SK.spV (b) (m)] w fun e w' => e = .returned (.int .i64 (3)) ∧ Below w.heap.size w w' := fun w => by have := SK.sSpotNear_any g n a l b m w; rw [nv] at this; exact this
            have G0 : ∀ w, Calls Tryd.prog 7 #[SK.spV (g) (n)] w fun e w' => e = .returned (.bool true) ∧ Below w.heap.size w w' := fun w => by have := SK.sSpotOk_any g n w; rw [h1] at this; exact this
            have G1 : ∀ w, Calls Tryd.prog 7 #[SK.spV (a) (l)] w fun e w' => e = .returned (.bool true) ∧ Below w.heap.size w w' := fun w => by have := SK.sSpotOk_any a l w; rw [h2] at this; exact this
            have G2 : ∀ w, Calls Tryd.prog 7 #[SK.spV (b) (m)] w fun e w' => e = .returned (.bool true) ∧ Below w.heap.size w w' := fun w => by have := SK.sSpotOk_any b m w; rw [h3] at this; exact this
            have hy : (SK.okP g n && SK.okP a l) = true := by rw [h1, h2]; rfl
            have hz : (SK.okP g n && SK.okP b m) = true := by rw [h1, h3]; rfl
            have F4 : ∀ w, SW.Sn sa w → Calls Tryd.prog 8 #[SK.spV (g) (n), SK.spV (a) (l)] w fun e w' => e = .returned (.tuple #[SK.spV (SI.dsL g n a l) (SI.dsH g n a l), .bool true]) ∧ Below w.heap.size w w' := fun w hs => by have := SK.spotDist_any (g) (n) (a) (l) sa w hs; rw [hy] at this; simp only [SM.sel] at this; exact this
            have F5 : ∀ w, SW.Sn sa w → Calls Tryd.prog 8 #[SK.spV (g) (n), SK.spV (b) (m)] w fun e w' => e = .returned (.tuple #[SK.spV (SI.dsL g n b m) (SI.dsH g n b m), .bool true]) ∧ Below w.heap.size w w' := fun w hs => by have := SK.spotDist_any (g) (n) (b) (m) sa w hs; rw [hz] at this; simp only [SM.sel] at this; exact this
            have F6 : ∀ w, SW.Sn sa w → Calls Tryd.prog 5 #[SK.spV (g) (n), SK.spV (b) (m), SK.spV (a) (l)] w fun e w' => e = .returned (.int .i64 (SK.nearV g n b m a l)) ∧ Below w.heap.size w w' := fun w hs => by have := SK.spotNear_any (g) (n) (b) (m) (a) (l) sa w hs; exact this
            have F7 : ∀ w, SW.Sn sa w → Calls Tryd.prog 5 #[SK.spV (g) (n), SK.spV (a) (l), SK.spV (a) (l)] w fun e w' => e = .returned (.int .i64 (2)) ∧ Below w.heap.size w w' := fun w hs => by have := SK.spotNear_any (g) (n) (a) (l) (a) (l) sa w hs; rw [near_self h1 h2] at this; exact this
            clear hy hz h1 h2 h3 nv
            generalize SI.dsL g n a l = p at *
            generalize SI.dsH g n a l = q at *
            generalize SI.dsL g n b m = r at *
            generalize SI.dsH g n b m = t at *
            generalize SK.nearV g n b m a l = u at *
            have ⟨Oc0, Oc1, Of0, Of1⟩ := O
            have ⟨Pc0, Pc1, Pf0, Pf1⟩ := P
            have ⟨Qc0, Qc1, Qf0, Qf1⟩ := Q
            go_wp2_with fail
            refine (F1 _ hs).mono ?_
            rintro e v2 ⟨rfl, Bx⟩
            clear Oc0 Oc1 Of0 Of1 Pc0 Pc1 Pf0 Pf1 Qc0 Qc1 Qf0 Qf1
            replace O := O.kept Bx
            replace P := P.kept Bx
            replace Q := Q.kept Bx
            replace B := SK.below1 B Bx
            replace hs := hs.kept Bx
            clear Bx
            have ⟨Oc0, Oc1, Of0, Of1⟩ := O
            have ⟨Pc0, Pc1, Pf0, Pf1⟩ := P
            have ⟨Qc0, Qc1, Qf0, Qf1⟩ := Q
            go_wp2_with fail
            refine (F2 _).mono ?_
            rintro e v3 ⟨rfl, Bx⟩
            clear Oc0 Oc1 Of0 Of1 Pc0 Pc1 Pf0 Pf1 Qc0 Qc1 Qf0 Qf1
            replace O := O.kept Bx
            replace P := P.kept Bx
            replace Q := Q.kept Bx
            replace B := SK.below1 B Bx
            replace hs := hs.kept Bx
            clear Bx
            have ⟨Oc0, Oc1, Of0, Of1⟩ := O
            have ⟨Pc0, Pc1, Pf0, Pf1⟩ := P
            have ⟨Qc0, Qc1, Qf0, Qf1⟩ := Q
            go_wp2_with fail
            refine (G0 _).mono ?_
            rintro e v4 ⟨rfl, Bx⟩
            clear Oc0 Oc1 Of0 Of1 Pc0 Pc1 Pf0 Pf1 Qc0 Qc1 Qf0 Qf1
            replace O := O.kept Bx
            replace P := P.kept Bx
            replace Q := Q.kept Bx
            replace B := SK.below1 B Bx
            replace hs := hs.kept Bx
            clear Bx
            have ⟨Oc0, Oc1, Of0, Of1⟩ := O
            have ⟨Pc0, Pc1, Pf0, Pf1⟩ := P
            have ⟨Qc0, Qc1, Qf0, Qf1⟩ := Q
            go_wp2_with fail
            refine (G1 _).mono ?_
            rintro e v5 ⟨rfl, Bx⟩
            clear Oc0 Oc1 Of0 Of1 Pc0 Pc1 Pf0 Pf1 Qc0 Qc1 Qf0 Qf1
            replace O := O.kept Bx
            replace P := P.kept Bx
            replace Q := Q.kept Bx
            replace B := SK.below1 B Bx
            replace hs := hs.kept Bx
            clear Bx
            have ⟨Oc0, Oc1, Of0, Of1⟩ := O
            have ⟨Pc0, Pc1, Pf0, Pf1⟩ := P
            have ⟨Qc0, Qc1, Qf0, Qf1⟩ := Q
            go_wp2_with fail
            refine (G2 _).mono ?_
            rintro e v6 ⟨rfl, Bx⟩
            clear Oc0 Oc1 Of0 Of1 Pc0 Pc1 Pf0 Pf1 Qc0 Qc1 Qf0 Qf1
            replace O := O.kept Bx
            replace P := P.kept Bx
            replace Q := Q.kept Bx
            replace B := SK.below1 B Bx
            replace hs := hs.kept Bx
            clear Bx
            have ⟨Oc0, Oc1, Of0, Of1⟩ := O
            have ⟨Pc0, Pc1, Pf0, Pf1⟩ := P
            have ⟨Qc0, Qc1, Qf0, Qf1⟩ := Q
            go_wp2_with fail
            refine (F4 _ hs).mono ?_
            rintro e v7 ⟨rfl, Bx⟩
            clear Oc0 Oc1 Of0 Of1 Pc0 Pc1 Pf0 Pf1 Qc0 Qc1 Qf0 Qf1
            replace O := O.kept Bx
            replace P := P.kept Bx
            replace Q := Q.kept Bx
            replace B := SK.below1 B Bx
            replace hs := hs.kept Bx
            clear Bx
            replace O := O.alloc (.cells #[.int .i64 (p), .int .i64 (q)] 30)
            replace P := P.alloc (.cells #[.int .i64 (p), .int .i64 (q)] 30)
            replace Q := Q.alloc (.cells #[.int .i64 (p), .int .i64 (q)] 30)
            have S1 := SK.Box.new v7 (p) (q) 30
            replace B := SK.below1 B (SK.below_new v7 (.cells #[.int .i64 (p), .int .i64 (q)] 30))
            replace hs := hs.alloc (.cells #[.int .i64 (p), .int .i64 (q)] 30)
            have ⟨Oc0, Oc1, Of0, Of1⟩ := O
            have ⟨Pc0, Pc1, Pf0, Pf1⟩ := P
            have ⟨Qc0, Qc1, Qf0, Qf1⟩ := Q
            have ⟨S1c0, S1c1, S1f0, S1f1⟩ := S1
            go_wp2_with fail
            refine (F5 _ hs).mono ?_
            rintro e v8 ⟨rfl, Bx⟩
            clear Oc0 Oc1 Of0 Of1 Pc0 Pc1 Pf0 Pf1 Qc0 Qc1 Qf0 Qf1 S1c0 S1c1 S1f0 S1f1
            replace O := O.kept Bx
            replace P := P.kept Bx
            replace Q := Q.kept Bx
            replace S1 := S1.kept Bx
            replace B := SK.below1 B Bx
            replace hs := hs.kept Bx
            clear Bx
            replace O := O.alloc (.cells #[.int .i64 (r), .int .i64 (t)] 30)
            replace P := P.alloc (.cells #[.int .i64 (r), .int .i64 (t)] 30)
            replace Q := Q.alloc (.cells #[.int .i64 (r), .int .i64 (t)] 30)
            replace S1 := S1.alloc (.cells #[.int .i64 (r), .int .i64 (t)] 30)
            have S2 := SK.Box.new v8 (r) (t) 30
            replace B := SK.below1 B (SK.below_new v8 (.cells #[.int .i64 (r), .int .i64 (t)] 30))
            replace hs := hs.alloc (.cells #[.int .i64 (r), .int .i64 (t)] 30)
            have ⟨Oc0, Oc1, Of0, Of1⟩ := O
            have ⟨Pc0, Pc1, Pf0, Pf1⟩ := P
            have ⟨Qc0, Qc1, Qf0, Qf1⟩ := Q
            have ⟨S1c0, S1c1, S1f0, S1f1⟩ := S1
            have ⟨S2c0, S2c1, S2f0, S2f1⟩ := S2
            go_wp2_with fail
            refine (F6 _ hs).mono ?_
            rintro e v9 ⟨rfl, Bx⟩
            clear Oc0 Oc1 Of0 Of1 Pc0 Pc1 Pf0 Pf1 Qc0 Qc1 Qf0 Qf1 S1c0 S1c1 S1f0 S1f1 S2c0 S2c1 S2f0 S2f1
            replace O := O.kept Bx
            replace P := P.kept Bx
            replace Q := Q.kept Bx
            replace S1 := S1.kept Bx
            replace S2 := S2.kept Bx
            replace B := SK.below1 B Bx
            replace hs := hs.kept Bx
            clear Bx
            have ⟨Oc0, Oc1, Of0, Of1⟩ := O
            have ⟨Pc0, Pc1, Pf0, Pf1⟩ := P
            have ⟨Qc0, Qc1, Qf0, Qf1⟩ := Q
            have ⟨S1c0, S1c1, S1f0, S1f1⟩ := S1
            have ⟨S2c0, S2c1, S2f0, S2f1⟩ := S2
            go_wp2_with fail
            refine (F7 _ hs).mono ?_
            rintro e v10 ⟨rfl, Bx⟩
            clear Oc0 Oc1 Of0 Of1 Pc0 Pc1 Pf0 Pf1 Qc0 Qc1 Qf0 Qf1 S1c0 S1c1 S1f0 S1f1 S2c0 S2c1 S2f0 S2f1
            replace O := O.kept Bx
            replace P := P.kept Bx
            replace Q := Q.kept Bx
            replace S1 := S1.kept Bx
            replace S2 := S2.kept Bx
            replace B := SK.below1 B Bx
            replace hs := hs.kept Bx
            clear Bx
            have ⟨Oc0, Oc1, Of0, Of1⟩ := O
            have ⟨Pc0, Pc1, Pf0, Pf1⟩ := P
            have ⟨Qc0, Qc1, Qf0, Qf1⟩ := Q
            have ⟨S1c0, S1c1, S1f0, S1f1⟩ := S1
            have ⟨S2c0, S2c1, S2f0, S2f1⟩ := S2
            go_wp2
            go_ret
            exact ⟨rfl, B⟩
  · go_enter Tryd.func3, Tryd.ntmps3
    go_wp2
    go_ret
    exact ⟨rfl, Below.refl _ _⟩

set_option maxRecDepth 100000 in
theorem lifted (os : Os) (started : os.Started) (H : Type) (enc : TypeId × Value → H) :
    ReturnsInHanded {} Tryd.checked os 3 .any (fun w args => (Rows.fnSpotNearSpec.pre enc Tryd.prog Tryd.f3 [] false w args ∧ laidMetH Tryd.prog DR.laid1 w) ∧ sizedMet enc Tryd.prog Tryd.f3 (OpenSpec.ofChange Rows.fnSpotNearSpec) false w args)
      (Rows.fnSpotNearSpec.post enc Tryd.prog Tryd.f3 false true false false) := by
  refine returnsInHanded_of_change_and (C := Tryd.checked) (X := fun w _ => laidMetH Tryd.prog DR.laid1 w) (fun _ _ _ hh h => h.of_heap hh) own started (by kernel_rfl) Tryd.func3
    (ChangeSpec.witness_shaped (enc := enc) (C := Tryd.checked) (os := os) (X := fun w _ => laidMetH Tryd.prog DR.laid1 w) false (World.doorLaid Tryd.prog 400 os) #[.slice none 0 0] 8 rfl (World.shaped_of_RefB (by kernel_rfl) (by kernel_rfl)) (by kernel_rfl) (by kernel_rfl) (by kernel_rfl) (DR.door_met os _)) ?_
  intro W base args ds gs before hval0 hW _ _ hL _
  have hval : ∀ (j : Nat) t v, Tryd.f3.params[j]? = some t → args[j]? = some v → Value.okWide Tryd.prog W .any base t v := hval0
  have hW' := hW
  obtain ⟨p, q, hA0, hV, rfl, hfz, hnd⟩ := hW
  have hA : DataW.TrodAll enc Tryd.prog W 0 (fun _ => true) true Tryd.f3.params.toList args.toList ds p := hA0
  rw [Tryd.params3] at hA hval
  obtain ⟨v0, vs0, d0, ds0, p0, q0, hargs0, rfl, rfl, h0, r0⟩ := trodAll_cons hA
  obtain ⟨rfl, rfl, rfl⟩ := trodAll_nil r0
  obtain rfl : args = #[v0] := by cases args; simp_all
  obtain ⟨sa, hv, hs⟩ := DR.of_laid hL
  obtain ⟨rfl, rfl⟩ := DataW.TrodVars.unique hV (DR.vars_read enc hv _)
  obtain ⟨a0, len0, cap0, rfl⟩ := okWide_slice Tryd.underlying22 (hval 0 22 v0 rfl rfl)
  have k0 := h0
  have lt0 : ∀ x ∈ p0, x.block < W.heap.size := by obtain ⟨m, hm⟩ := k0; exact DataW.trod_lt m _ _ _ hm
  obtain ⟨z0, w0⟩ : ∃ zs, IsRow .u8 W a0 len0 cap0 zs := by
    obtain ⟨fuel, hf⟩ := h0
    rcases open_ints Tryd.underlying22 Tryd.underlying5 (by kernel_rfl) hf with ⟨hcs, _⟩ | ⟨x, l, c, zs, hcs, _, hl, hm, hz, _, hcell, hwz⟩
    · simp [Value.cells] at hcs
      obtain ⟨rfl, rfl, rfl⟩ := hcs
      exact ⟨[], .inl ⟨rfl, rfl, rfl, rfl⟩⟩
    · simp [Value.cells] at hcs
      obtain ⟨rfl, rfl, rfl⟩ := hcs
      exact ⟨zs, .inr ⟨_, rfl, hl, hm, by simpa using hz, hcell, hwz⟩⟩
  clear hA0 hval0
  refine (walk a0 len0 cap0 z0 sa W w0 hs).mono fun e W' ⟨he, bel⟩ => ?_
  subst he
  exact ⟨_, rfl, _, _, _, [], _, [.cell 0 0], hW', trodAll_mk1 (shut_bool Tryd.underlying4 _), (trodAll_cons_mk (Below.trod laidOut (by kernel_rfl) (of_decide_eq_true (by kernel_rfl)) k0 bel lt0) trodAll_mk0), DR.vars_read enc (DR.var_below hv bel) _, bel.frame _, fun h => by cases h⟩

theorem said : Rows.FnSpotNearSaid :=
  OpenClaim.holds_of_wide 3 Tryd.f3 rfl rfl rfl rfl rfl rfl rfl ⟨rfl, rfl, rfl, rfl, rfl⟩ rfl rfl rfl rfl rfl (by kernel_rfl) Tryd.func3 (by kernel_rfl)
    (of_decide_eq_true (by kernel_rfl)) (by unfold Func.isWrapper; first | (rw [if_pos (by decide +kernel)]; kernel_rfl) | (rw [if_neg (by decide +kernel)]; exact ⟨rfl, rfl⟩))
    (fun os started H enc _ => lifted os started H enc)

theorem plain (f : FuncId) (fn : Func) (hf : Tryd.pinned.checked.prog.funcNamed "loop.example/alidade/laws.FnSpotNear" = some f) (hfn : Tryd.pinned.checked.prog.funcs[f]? = some fn) :
    true = Tryd.pinned.checked.prog.looks [] ∧ ∀ (j : Nat) t, fn.params[j]? = some t → Tryd.pinned.checked.prog.wantsStandIn t = false := by
  obtain rfl : f = 3 := Option.some.inj ((show Tryd.prog.funcNamed "loop.example/alidade/laws.FnSpotNear" = some 3 by kernel_rfl).symm.trans hf) |>.symm
  obtain rfl : fn = Tryd.f3 := (Option.some.inj (Tryd.func3.symm.trans hfn)).symm
  refine ⟨by kernel_rfl, fun j t ht => ?_⟩
  rw [Tryd.params3] at ht
  have hm : t ∈ [22] := by
    have := Array.mem_of_getElem? ht
    simpa using this
  have hall : ([22].all fun u => !Tryd.prog.wantsStandIn u) = true := by kernel_rfl
  exact (show Tryd.prog.wantsStandIn t = false by simpa using List.all_eq_true.1 hall t hm)

theorem card : Rows.FnSpotNearCardSaid :=
  Claim7.holds_tied_plain_at .later [] _ _ _ _ said (fun _ h => by cases h) (by kernel_rfl) (fun _ h => by cases h) fnSpotNear_row_tie rfl ⟨rfl, rfl⟩ (by kernel_rfl) rfl plain (by kernel_rfl)
end Go.Proofs.YtfdkpcejjcifganDoor.fnSpotNear
namespace Go.Proofs.YtfdkpcejjcifganDoor
theorem fnSpotNear_holds : Rows.FnSpotNearCardSaid := fnSpotNear.card
#print axioms fnSpotNear_holds
end Go.Proofs.YtfdkpcejjcifganDoor
