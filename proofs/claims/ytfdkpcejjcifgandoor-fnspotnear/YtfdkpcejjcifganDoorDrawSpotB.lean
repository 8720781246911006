/-
  Texts of chapter 21, laid as one.
-/
import Derived.Test.YtfdkpcejjcifganDoorDrawFan
import Derived.Test.YtfdkpcejjcifganDoorSpotWalks
import Derived.Test.YtfdkpcejjcifganDoorLoose2
import Derived.RegionTactic
import Derived.Test.YtfdkpcejjcifganDoorLoose4
namespace Go.Proofs.YtfdkpcejjcifganDoor
open Go.RowKit Go.Sort
set_option linter.unusedVariables false
namespace DS
open DK DW DF SK
set_option maxHeartbeats 4000000 in
theorem l71Spot_any (w : World) (k p : Nat) (hp : p ≤ 850000000) (h : Rd w k p) :
    Calls Tryd.prog 11 #[.pointer (some ⟨k, 0, none⟩)] w fun e w' => ∃ a l : Int, ∃ p' : Nat, e = .returned (SK.spV a l) ∧ -32400010 ≤ a ∧ a ≤ 32400010 ∧ -10 ≤ l ∧ l ≤ 129600010 ∧ p' ≤ p + 40 ∧ Rd w' k p' ∧ Tch k w.heap.size w w' := by
  have hk := h.lt
  have R := SK.Box.new w 0 0 24
  have T := (Tch.refl k w.heap.size w).alloc (Nat.le_refl _) (.cells #[.int .i64 0, .int .i64 0] 24)
  go_enter Tryd.func11, Tryd.ntmps11
  go_wp2_with fail
  refine (l71Big_any _ k p _ (by omega) (h.alloc _) (by omega) (by omega)).mono ?_
  rintro e w1 ⟨u, p1, rfl, u0, u1, q1, R1, T1⟩
  replace R := boxTch R T1 R.lt (by omega)
  replace T := T.trans (T1.mono T.size)
  clear h T1
  go_wp2_with fail
  refine (l71Big_any _ k p1 _ (by omega) R1 (by omega) (by omega)).mono ?_
  rintro e w2 ⟨x, p2, rfl, x0, x1, q2, R2, T2⟩
  replace R := boxTch R T2 R.lt (by omega)
  have hR := R.lt
  replace T := T.trans (T2.mono T.size)
  have hs := T.size
  clear T2 R1
  have P := SK.Box.new w2 u (max x 0) 24
  replace R := R.alloc (.cells #[.int .i64 u, .int .i64 (max x 0)] 24)
  replace T := T.alloc hs (.cells #[.int .i64 u, .int .i64 (max x 0)] 24)
  replace R2 := R2.alloc (.cells #[.int .i64 u, .int .i64 (max x 0)] 24)
  have hk2 : k < w2.heap.size := by omega
  go_wp2_with fail
  refine (pick_any _ k _ _ (by omega) R2).mono ?_
  rintro e w4 ⟨v, rfl, v0, v1, R4, T4⟩
  replace v1 := v1 (by omega)
  replace R := boxTch R T4 R.lt (by omega)
  replace P := boxTch P T4 P.lt (by omega)
  replace T := T.trans (T4.mono T.size)
  clear T4 R2
  generalize w2.heap.size = pb at *
  have hP := P.lt
  rcases (show v = 0 ∨ v = 1 ∨ v = 2 ∨ v = 3 ∨ (v = 4 ∨ v = 5 ∨ v = 6) ∨ 7 ≤ v by omega) with rfl | rfl | rfl | rfl | v2 | v2
  · go_wp2_with fail
    refine (pick_any _ k _ _ (by omega) (R4.alloc _)).mono ?_
    rintro e w5 ⟨z, rfl, z0, z1, R5, T5⟩
    replace z1 := z1 (by omega)
    replace P := boxTch (P.alloc (.cells #[.int .i64 32400000, .int .i64 (-32400000)] 3)) T5 (P.alloc (.cells #[.int .i64 32400000, .int .i64 (-32400000)] 3)).lt (by omega)
    replace R := boxTch (R.alloc (.cells #[.int .i64 32400000, .int .i64 (-32400000)] 3)) T5 (R.alloc (.cells #[.int .i64 32400000, .int .i64 (-32400000)] 3)).lt (by omega)
    replace T := (T.alloc T.size (.cells #[.int .i64 32400000, .int .i64 (-32400000)] 3)).trans (T5.mono (by have := T.size; simp; omega))
    have hb4 : k < w4.heap.size := R4.lt
    rcases (show z = 0 ∨ z = 1 by omega) with rfl | rfl
    · have hc : w5.cell? ⟨w4.heap.size, 0, none⟩ = some (.int .i64 (32400000)) := by rw [T5.cell (by simp) (by omega)]; simp [go_sem]
      clear T5 R4
      have ⟨R0, R1, R2, R3⟩ := R.apart (c := pb) (o := 0) (by omega) (.int .i64 (32400000))
      have ⟨P0, P1, P2, P3⟩ := P
      clear P R
      go_wp2
      refine bodyPost_ret (v := .agg #[.int .i64 (32400000), .int .i64 (max x 0)]) (by simp [results, Tryd.results11, go_sem, *]) rfl ⟨_, _, _, rfl, by omega, by omega, by omega, by omega, by omega, rdHi (rdHi (rdHi R5 (by omega)) (by omega)) (by omega), tchHi (tchHi (tchHi T (by omega)) (by omega)) (by omega)⟩
    · have hc : w5.cell? ⟨w4.heap.size, 1, none⟩ = some (.int .i64 (-32400000)) := by rw [T5.cell (by simp) (by omega)]; simp [go_sem]
      clear T5 R4
      have ⟨R0, R1, R2, R3⟩ := R.apart (c := pb) (o := 0) (by omega) (.int .i64 (-32400000))
      have ⟨P0, P1, P2, P3⟩ := P
      clear P R
      go_wp2
      refine bodyPost_ret (v := .agg #[.int .i64 (-32400000), .int .i64 (max x 0)]) (by simp [results, Tryd.results11, go_sem, *]) rfl ⟨_, _, _, rfl, by omega, by omega, by omega, by omega, by omega, rdHi (rdHi (rdHi R5 (by omega)) (by omega)) (by omega), tchHi (tchHi (tchHi T (by omega)) (by omega)) (by omega)⟩
  · have ⟨R0, R1, R2, R3⟩ := R.apart (c := pb) (o := 0) (by omega) (.int .i64 (0))
    have ⟨P0, P1, P2, P3⟩ := P
    clear P R
    go_wp2
    refine bodyPost_ret (v := .agg #[.int .i64 (0), .int .i64 (max x 0)]) (by simp [results, Tryd.results11, go_sem, *]) rfl ⟨_, _, _, rfl, by omega, by omega, by omega, by omega, by omega, rdHi (rdHi (rdHi R4 (by omega)) (by omega)) (by omega), tchHi (tchHi (tchHi T (by omega)) (by omega)) (by omega)⟩
  · go_wp2_with fail
    refine (pick_any _ k _ _ (by omega) (R4.alloc _)).mono ?_
    rintro e w5 ⟨z, rfl, z0, z1, R5, T5⟩
    replace z1 := z1 (by omega)
    replace P := boxTch (P.alloc (.cells #[.int .i64 32400001, .int .i64 (-32400001)] 3)) T5 (P.alloc (.cells #[.int .i64 32400001, .int .i64 (-32400001)] 3)).lt (by omega)
    replace R := boxTch (R.alloc (.cells #[.int .i64 32400001, .int .i64 (-32400001)] 3)) T5 (R.alloc (.cells #[.int .i64 32400001, .int .i64 (-32400001)] 3)).lt (by omega)
    replace T := (T.alloc T.size (.cells #[.int .i64 32400001, .int .i64 (-32400001)] 3)).trans (T5.mono (by have := T.size; simp; omega))
    have hb4 : k < w4.heap.size := R4.lt
    rcases (show z = 0 ∨ z = 1 by omega) with rfl | rfl
    · have hc : w5.cell? ⟨w4.heap.size, 0, none⟩ = some (.int .i64 (32400001)) := by rw [T5.cell (by simp) (by omega)]; simp [go_sem]
      clear T5 R4
      have ⟨R0, R1, R2, R3⟩ := R.apart (c := pb) (o := 0) (by omega) (.int .i64 (32400001))
      have ⟨P0, P1, P2, P3⟩ := P
      clear P R
      go_wp2
      refine bodyPost_ret (v := .agg #[.int .i64 (32400001), .int .i64 (max x 0)]) (by simp [results, Tryd.results11, go_sem, *]) rfl ⟨_, _, _, rfl, by omega, by omega, by omega, by omega, by omega, rdHi (rdHi (rdHi R5 (by omega)) (by omega)) (by omega), tchHi (tchHi (tchHi T (by omega)) (by omega)) (by omega)⟩
    · have hc : w5.cell? ⟨w4.heap.size, 1, none⟩ = some (.int .i64 (-32400001)) := by rw [T5.cell (by simp) (by omega)]; simp [go_sem]
      clear T5 R4
      have ⟨R0, R1, R2, R3⟩ := R.apart (c := pb) (o := 0) (by omega) (.int .i64 (-32400001))
      have ⟨P0, P1, P2, P3⟩ := P
      clear P R
      go_wp2
      refine bodyPost_ret (v := .agg #[.int .i64 (-32400001), .int .i64 (max x 0)]) (by simp [results, Tryd.results11, go_sem, *]) rfl ⟨_, _, _, rfl, by omega, by omega, by omega, by omega, by omega, rdHi (rdHi (rdHi R5 (by omega)) (by omega)) (by omega), tchHi (tchHi (tchHi T (by omega)) (by omega)) (by omega)⟩
  · go_wp2_with fail
    refine (pick_any _ k _ _ (by omega) (R4.alloc _)).mono ?_
    rintro e w5 ⟨z, rfl, z0, z1, R5, T5⟩
    replace z1 := z1 (by omega)
    replace P := boxTch (P.alloc (.cells #[.int .i64 (-1), .int .i64 129600000] 3)) T5 (P.alloc (.cells #[.int .i64 (-1), .int .i64 129600000] 3)).lt (by omega)
    replace R := boxTch (R.alloc (.cells #[.int .i64 (-1), .int .i64 129600000] 3)) T5 (R.alloc (.cells #[.int .i64 (-1), .int .i64 129600000] 3)).lt (by omega)
    replace T := (T.alloc T.size (.cells #[.int .i64 (-1), .int .i64 129600000] 3)).trans (T5.mono (by have := T.size; simp; omega))
    have hb4 : k < w4.heap.size := R4.lt
    rcases (show z = 0 ∨ z = 1 by omega) with rfl | rfl
    · have hc : w5.cell? ⟨w4.heap.size, 0, none⟩ = some (.int .i64 (-1)) := by rw [T5.cell (by simp) (by omega)]; simp [go_sem]
      clear T5 R4
      have ⟨R0, R1, R2, R3⟩ := R.apart (c := pb) (o := 1) (by omega) (.int .i64 (-1))
      have ⟨P0, P1, P2, P3⟩ := P
      clear P R
      go_wp2
      refine bodyPost_ret (v := .agg #[.int .i64 (u), .int .i64 (-1)]) (by simp [results, Tryd.results11, go_sem, *]) rfl ⟨_, _, _, rfl, by omega, by omega, by omega, by omega, by omega, rdHi (rdHi (rdHi R5 (by omega)) (by omega)) (by omega), tchHi (tchHi (tchHi T (by omega)) (by omega)) (by omega)⟩
    · have hc : w5.cell? ⟨w4.heap.size, 1, none⟩ = some (.int .i64 (129600000)) := by rw [T5.cell (by simp) (by omega)]; simp [go_sem]
      clear T5 R4
      have ⟨R0, R1, R2, R3⟩ := R.apart (c := pb) (o := 1) (by omega) (.int .i64 (129600000))
      have ⟨P0, P1, P2, P3⟩ := P
      clear P R
      go_wp2
      refine bodyPost_ret (v := .agg #[.int .i64 (u), .int .i64 (129600000)]) (by simp [results, Tryd.results11, go_sem, *]) rfl ⟨_, _, _, rfl, by omega, by omega, by omega, by omega, by omega, rdHi (rdHi (rdHi R5 (by omega)) (by omega)) (by omega), tchHi (tchHi (tchHi T (by omega)) (by omega)) (by omega)⟩
  · rcases v2 with rfl | rfl | rfl
    · go_wp2_with fail
      refine (pick_any _ k _ _ (by omega) R4).mono ?_
      rintro e w5 ⟨z, rfl, z0, z1, R5, T5⟩
      replace z1 := z1 (by omega)
      replace P := boxTch P T5 P.lt (by omega)
      replace R := boxTch R T5 R.lt (by omega)
      replace T := T.trans (T5.mono T.size)
      clear T5 R4
      have ⟨R0, R1, R2, R3⟩ := R.apart (c := pb) (o := 1) (by omega) (.int .i64 (z * 32400000))
      have ⟨P0, P1, P2, P3⟩ := P
      clear P R
      go_wp2
      refine bodyPost_ret (v := .agg #[.int .i64 (u), .int .i64 (z * 32400000)]) (by simp [results, Tryd.results11, go_sem, *]) rfl ⟨_, _, _, rfl, by omega, by omega, by omega, by omega, by omega, rdHi (rdHi (rdHi R5 (by omega)) (by omega)) (by omega), tchHi (tchHi (tchHi T (by omega)) (by omega)) (by omega)⟩
    · go_wp2_with fail
      refine (pick_any _ k _ _ (by omega) R4).mono ?_
      rintro e w5 ⟨z, rfl, z0, z1, R5, T5⟩
      replace z1 := z1 (by omega)
      replace P := boxTch P T5 P.lt (by omega)
      replace R := boxTch R T5 R.lt (by omega)
      replace T := T.trans (T5.mono T.size)
      clear T5 R4
      have ⟨R0, R1, R2, R3⟩ := R.apart (c := pb) (o := 1) (by omega) (.int .i64 (z * 32400000))
      have ⟨P0, P1, P2, P3⟩ := P
      clear P R
      go_wp2
      refine bodyPost_ret (v := .agg #[.int .i64 (u), .int .i64 (z * 32400000)]) (by simp [results, Tryd.results11, go_sem, *]) rfl ⟨_, _, _, rfl, by omega, by omega, by omega, by omega, by omega, rdHi (rdHi (rdHi R5 (by omega)) (by omega)) (by omega), tchHi (tchHi (tchHi T (by omega)) (by omega)) (by omega)⟩
    · go_wp2_with fail
      refine (pick_any _ k _ _ (by omega) R4).mono ?_
      rintro e w5 ⟨z, rfl, z0, z1, R5, T5⟩
      replace z1 := z1 (by omega)
      replace P := boxTch P T5 P.lt (by omega)
      replace R := boxTch R T5 R.lt (by omega)
      replace T := T.trans (T5.mono T.size)
      clear T5 R4
      have ⟨R0, R1, R2, R3⟩ := R.apart (c := pb) (o := 1) (by omega) (.int .i64 (z * 32400000))
      have ⟨P0, P1, P2, P3⟩ := P
      clear P R
      go_wp2
      refine bodyPost_ret (v := .agg #[.int .i64 (u), .int .i64 (z * 32400000)]) (by simp [results, Tryd.results11, go_sem, *]) rfl ⟨_, _, _, rfl, by omega, by omega, by omega, by omega, by omega, rdHi (rdHi (rdHi R5 (by omega)) (by omega)) (by omega), tchHi (tchHi (tchHi T (by omega)) (by omega)) (by omega)⟩
  · have e0 : (v == 0) = false := by simp; omega
    have e1 : (v == 1) = false := by simp; omega
    have e2 : (v == 2) = false := by simp; omega
    have e3 : (v == 3) = false := by simp; omega
    have e4 : (v == 4) = false := by simp; omega
    have e5 : (v == 5) = false := by simp; omega
    have e6 : (v == 6) = false := by simp; omega
    have ⟨P0, P1, P2, P3⟩ := P
    have ⟨R0, R1, R2, R3⟩ := R
    clear P R
    go_wp2
    refine bodyPost_ret (v := .agg #[.int .i64 (u), .int .i64 (max x 0)]) (by simp [results, Tryd.results11, go_sem, *]) rfl ⟨_, _, _, rfl, by omega, by omega, by omega, by omega, by omega, rdHi (rdHi R4 (by omega)) (by omega), tchHi (tchHi T (by omega)) (by omega)⟩
end DS
end Go.Proofs.YtfdkpcejjcifganDoor
namespace Go.Proofs.YtfdkpcejjcifganDoor
open Go.RowKit Go.Sort
set_option linter.unusedVariables false
namespace DS
open DK DW DF SK
/-- A world in which the reader has gone on from 'w0', so many draws being left. -/
structure Wd (k : Nat) (w0 : World) (f : Nat) where
  w : World
  rd : ∃ p, Rd w k p ∧ p + 200 * f ≤ 800000000
  tc : Tch k w0.heap.size w0 w
abbrev Cr (k : Nat) (w0 : World) : Nat → World → Prop := fun f w' => ∃ q : Wd k w0 f, w' = q.w
theorem Cr.mono {k : Nat} {w0 : World} : ∀ f w, Cr k w0 (f + 1) w → Cr k w0 f w := by
  rintro f w ⟨q, rfl⟩
  obtain ⟨p, h1, h2⟩ := q.rd
  exact ⟨⟨q.w, ⟨p, h1, by omega⟩, q.tc⟩, rfl⟩
theorem Cr.start {k p : Nat} {w0 : World} (n : Nat) (R : Rd w0 k p) (h : p + 200 * n ≤ 800000000) : Cr k w0 n { w0 with drawn := w0.drawn + 1 } :=
  ⟨⟨w0.drew, ⟨p, R.drew, h⟩, (Tch.refl _ _ _).drew⟩, rfl⟩
/-- Values of which only themselves are known. -/
def ndV (g : Nat → Option (Value → Prop)) : Nat → Option (Act → Value → World → Prop) := fun i => (g i).map fun φ _ u _ => φ u
theorem ndV_local {ops : Array Oper} (g : Nat → Option (Value → Prop)) : LQ.Local ops (ndV g) := by
  intro j Φ oj hn _ a dst v _
  unfold ndV at hn
  obtain ⟨φ, _, rfl⟩ := Option.map_eq_some_iff.1 hn
  rfl
theorem ndV_keeps {g : Nat → Option (Value → Prop)} {w w' : World} : LQ.Keeps (ndV g) w w' := by
  intro i Φ a u hn h
  unfold ndV at hn
  obtain ⟨φ, _, rfl⟩ := Option.map_eq_some_iff.1 hn
  exact h
def isNum (n : Int) (u : Value) : Prop := ∃ z : Int, u = .int .i64 z ∧ 0 ≤ z ∧ z < n
theorem pick_loose {g : Nat → Option (Value → Prop)} {k f : Nat} {w0 : World} (q : Wd k w0 (f + 1)) (n : Int) (hn : 1 ≤ n) :
    Calls Tryd.prog 24 #[.pointer (some ⟨k, 0, none⟩), .int .i64 n] q.w fun e w'' => ∃ u, e = .returned u ∧ Cr k w0 f w'' ∧ (∃ z : Int, u = .int .i64 z ∧ 0 ≤ z ∧ z < n) ∧ LQ.Keeps (ndV g) q.w w'' := by
  obtain ⟨p, R, hp⟩ := q.rd
  refine (pick_any q.w k p n (by omega) R).mono ?_
  rintro e w1 ⟨v, rfl, v0, v1, R1, T1⟩
  exact ⟨_, rfl, ⟨⟨w1, ⟨_, R1, by omega⟩, q.tc.trans (T1.mono q.tc.size)⟩, rfl⟩, ⟨v, rfl, v0, v1 hn⟩, ndV_keeps⟩
set_option maxHeartbeats 4000000 in
theorem l71Spots_any (w : World) (k p : Nat) (hp : p ≤ 700000000) (h : Rd w k p) :
    Calls Tryd.prog 10 #[.pointer (some ⟨k, 0, none⟩)] w fun e w' => ∃ a l b m : Int, ∃ p' : Nat, e = .returned (.tuple #[SK.spV a l, SK.spV b m]) ∧ -32400010 ≤ a ∧ a ≤ 32400010 ∧ -10 ≤ l ∧ l ≤ 129600010 ∧ -32400010 ≤ b ∧ b ≤ 32400010 ∧ -10 ≤ m ∧ m ≤ 129600010 ∧ p' ≤ 800000000 ∧ Rd w' k p' ∧ Tch k w.heap.size w w' := by
  have hk := h.lt
  have R := (SK.Box.new w 0 0 24).alloc (.cells #[.int .i64 0, .int .i64 0] 24)
  have Z := SK.Box.new2 w (.cells #[.int .i64 0, .int .i64 0] 24) 0 0 24
  have T := ((Tch.refl k w.heap.size w).alloc (Nat.le_refl _) (.cells #[.int .i64 0, .int .i64 0] 24)).alloc (by simp) (.cells #[.int .i64 0, .int .i64 0] 24)
  go_enter Tryd.func10, Tryd.ntmps10
  go_wp2_with fail
  refine (l71Spot_any _ k p (by omega) ((h.alloc _).alloc _)).mono ?_
  rintro e w1 ⟨a, l, p1, rfl, a0, a1, l0, l1, q1, R1, T1⟩
  replace R := boxTch R T1 R.lt (by omega)
  replace Z := boxTch Z T1 Z.lt (by omega)
  replace T := T.trans (T1.mono T.size)
  have hZ := Z.lt
  clear h T1
  have P := SK.Box.new w1 a l 24
  replace R := R.alloc (.cells #[.int .i64 a, .int .i64 l] 24)
  replace Z := Z.alloc (.cells #[.int .i64 a, .int .i64 l] 24)
  replace T := T.alloc T.size (.cells #[.int .i64 a, .int .i64 l] 24)
  replace R1 := R1.alloc (.cells #[.int .i64 a, .int .i64 l] 24)
  go_wp2_with fail
  refine (l71Spot_any _ k p1 (by omega) R1).mono ?_
  rintro e w2 ⟨b, m, p2, rfl, b0, b1, m0, m1, q2, R2, T2⟩
  replace R := boxTch R T2 R.lt (by omega)
  replace Z := boxTch Z T2 Z.lt (by omega)
  replace P := boxTch P T2 P.lt (by omega)
  replace T := T.trans (T2.mono T.size)
  have hP := P.lt
  clear T2 R1
  have Q := SK.Box.new w2 b m 24
  replace R := R.alloc (.cells #[.int .i64 b, .int .i64 m] 24)
  replace Z := Z.alloc (.cells #[.int .i64 b, .int .i64 m] 24)
  replace P := P.alloc (.cells #[.int .i64 b, .int .i64 m] 24)
  replace T := T.alloc T.size (.cells #[.int .i64 b, .int .i64 m] 24)
  replace R2 := R2.alloc (.cells #[.int .i64 b, .int .i64 m] 24)
  go_wp2_with fail
  refine (pick_any _ k _ _ (by omega) R2).mono ?_
  rintro e w3 ⟨v, rfl, v0, v1, R3, T3⟩
  replace v1 := v1 (by omega)
  replace R := boxTch R T3 R.lt (by omega)
  replace Z := boxTch Z T3 Z.lt (by omega)
  replace P := boxTch P T3 P.lt (by omega)
  replace Q := boxTch Q T3 Q.lt (by omega)
  replace T := T.trans (T3.mono T.size)
  have hQ := Q.lt
  clear T3 R2
  generalize w1.heap.size = pb at *
  generalize w2.heap.size = qb at *
  rcases (show v = 0 ∨ v = 1 ∨ v = 2 ∨ v = 3 ∨ 4 ≤ v by omega) with rfl | rfl | rfl | rfl | v2
  · have ⟨P0, P1, P2, P3⟩ := P
    have ⟨Q0, Q1, Q2, Q3⟩ := Q
    go_wp2_with fail
    clear P0 P1 P2 P3 Q0 Q1 Q2 Q3
    replace Q := Q.set a l
    replace P := P.apart (c := qb) (o := 0) (by omega) (.int .i64 (a))
    replace P := P.apart (c := qb) (o := 1) (by omega) (.int .i64 (l))
    replace R := R.apart (c := qb) (o := 0) (by omega) (.int .i64 (a))
    replace R := R.apart (c := qb) (o := 1) (by omega) (.int .i64 (l))
    replace Z := Z.apart (c := qb) (o := 0) (by omega) (.int .i64 (a))
    replace Z := Z.apart (c := qb) (o := 1) (by omega) (.int .i64 (l))
    replace R3 := rdHi (o := 1) (v := .int .i64 l) (rdHi (o := 0) (v := .int .i64 a) R3 (show k < qb by omega)) (show k < qb by omega)
    replace T := tchHi (o := 1) (v := .int .i64 l) (tchHi (o := 0) (v := .int .i64 a) T (show w.heap.size ≤ qb by omega)) (show w.heap.size ≤ qb by omega)
    generalize (w3.setCell ⟨qb, 0, none⟩ (.int .i64 a)).setCell ⟨qb, 1, none⟩ (.int .i64 l) = w5 at *
    have n1 : ¬ w.heap.size = w.heap.size + 1 := by omega
    have n2 : ¬ w.heap.size = pb := by omega
    have n3 : ¬ w.heap.size = qb := by omega
    have n4 : ¬ w.heap.size + 1 = w.heap.size := by omega
    have n5 : ¬ w.heap.size + 1 = pb := by omega
    have n6 : ¬ w.heap.size + 1 = qb := by omega
    have n7 : ¬ pb = w.heap.size := by omega
    have n8 : ¬ pb = w.heap.size + 1 := by omega
    have n9 : ¬ pb = qb := by omega
    have n10 : ¬ qb = w.heap.size := by omega
    have n11 : ¬ qb = w.heap.size + 1 := by omega
    have n12 : ¬ qb = pb := by omega
    have ⟨P0, P1, P2, P3⟩ := P
    have ⟨Q0, Q1, Q2, Q3⟩ := Q
    have ⟨r0, r1, r2, r3⟩ := R
    have ⟨Z0, Z1, Z2, Z3⟩ := Z
    clear P Q R Z
    go_wp2_with fail
    go_region
    all_goals go_wp2
    all_goals refine bodyPost_ret (v := .tuple #[.agg #[.int .i64 (a), .int .i64 (l)], .agg #[.int .i64 (a), .int .i64 (l)]]) (by simp [results, Tryd.results10, go_sem, *]) rfl ⟨_, _, _, _, p2 + 1, rfl, by omega, by omega, by omega, by omega, by omega, by omega, by omega, by omega, ?_, ?_, ?_⟩
    all_goals first | omega | exact Tch.drew (tchHi (tchHi (tchHi (tchHi T (by omega)) (by omega)) (by omega)) (by omega)) | exact Rd.drew (rdHi (rdHi (rdHi (rdHi R3 (by omega)) (by omega)) (by omega)) (by omega))
  · have ⟨P0, P1, P2, P3⟩ := P
    have ⟨Q0, Q1, Q2, Q3⟩ := Q
    go_wp2_with fail
    clear P0 P1 P2 P3 Q0 Q1 Q2 Q3
    replace Q : SK.Box (w3.setCell ⟨qb, 1, none⟩ (.int .i64 l)) qb b l := by obtain ⟨c0, c1, f0, f1⟩ := Q; exact ⟨by simp [go_sem, *], by simp [go_sem, *], by simp [go_sem, *], by simp [go_sem, *]⟩
    replace P := P.apart (c := qb) (o := 1) (by omega) (.int .i64 (l))
    replace R := R.apart (c := qb) (o := 1) (by omega) (.int .i64 (l))
    replace Z := Z.apart (c := qb) (o := 1) (by omega) (.int .i64 (l))
    replace R3 := rdHi (o := 1) (v := .int .i64 l) R3 (show k < qb by omega)
    replace T := tchHi (o := 1) (v := .int .i64 l) T (show w.heap.size ≤ qb by omega)
    generalize w3.setCell ⟨qb, 1, none⟩ (.int .i64 l) = w5 at *
    have n1 : ¬ w.heap.size = w.heap.size + 1 := by omega
    have n2 : ¬ w.heap.size = pb := by omega
    have n3 : ¬ w.heap.size = qb := by omega
    have n4 : ¬ w.heap.size + 1 = w.heap.size := by omega
    have n5 : ¬ w.heap.size + 1 = pb := by omega
    have n6 : ¬ w.heap.size + 1 = qb := by omega
    have n7 : ¬ pb = w.heap.size := by omega
    have n8 : ¬ pb = w.heap.size + 1 := by omega
    have n9 : ¬ pb = qb := by omega
    have n10 : ¬ qb = w.heap.size := by omega
    have n11 : ¬ qb = w.heap.size + 1 := by omega
    have n12 : ¬ qb = pb := by omega
    have ⟨P0, P1, P2, P3⟩ := P
    have ⟨Q0, Q1, Q2, Q3⟩ := Q
    have ⟨r0, r1, r2, r3⟩ := R
    have ⟨Z0, Z1, Z2, Z3⟩ := Z
    clear P Q R Z
    go_wp2_with fail
    go_region
    all_goals go_wp2
    all_goals refine bodyPost_ret (v := .tuple #[.agg #[.int .i64 (a), .int .i64 (l)], .agg #[.int .i64 (b), .int .i64 (l)]]) (by simp [results, Tryd.results10, go_sem, *]) rfl ⟨_, _, _, _, p2 + 1, rfl, by omega, by omega, by omega, by omega, by omega, by omega, by omega, by omega, ?_, ?_, ?_⟩
    all_goals first | omega | exact Tch.drew (tchHi (tchHi (tchHi (tchHi T (by omega)) (by omega)) (by omega)) (by omega)) | exact Rd.drew (rdHi (rdHi (rdHi (rdHi R3 (by omega)) (by omega)) (by omega)) (by omega))
  · have K := fun w => SK.sSpotFar_any a l w
    cases ok : SK.okP a l
    · rw [ok] at K
      simp only [SM.sel] at K
      clear ok
      have ⟨P0, P1, P2, P3⟩ := P
      go_wp2_with fail
      refine (K _).mono ?_
      rintro e w4 ⟨rfl, Bx⟩
      clear P0 P1 P2 P3
      replace P := (P.kept Bx).alloc (.cells #[.int .i64 (0), .int .i64 (0)] 24)
      replace Q := (Q.kept Bx).alloc (.cells #[.int .i64 (0), .int .i64 (0)] 24)
      replace R := (R.kept Bx).alloc (.cells #[.int .i64 (0), .int .i64 (0)] 24)
      replace Z := (Z.kept Bx).alloc (.cells #[.int .i64 (0), .int .i64 (0)] 24)
      have hw := Bx.size
      have R4 := (R3.kept Bx).alloc (.cells #[.int .i64 (0), .int .i64 (0)] 24)
      have T4 := (T.trans (Tch.ofBelow (k := k) (Bx.mono T.size))).alloc (Nat.le_trans T.size Bx.size) (.cells #[.int .i64 (0), .int .i64 (0)] 24)
      have X := SK.Box.new w4 (0) (0) 24
      clear T
      have T := T4
      clear T4 R3 K Bx
      clear X
      go_wp2_with fail
      generalize w4.alloc (.cells #[.int .i64 (0), .int .i64 (0)] 24) = w5 at *
      have n1 : ¬ w.heap.size = w.heap.size + 1 := by omega
      have n2 : ¬ w.heap.size = pb := by omega
      have n3 : ¬ w.heap.size = qb := by omega
      have n4 : ¬ w.heap.size + 1 = w.heap.size := by omega
      have n5 : ¬ w.heap.size + 1 = pb := by omega
      have n6 : ¬ w.heap.size + 1 = qb := by omega
      have n7 : ¬ pb = w.heap.size := by omega
      have n8 : ¬ pb = w.heap.size + 1 := by omega
      have n9 : ¬ pb = qb := by omega
      have n10 : ¬ qb = w.heap.size := by omega
      have n11 : ¬ qb = w.heap.size + 1 := by omega
      have n12 : ¬ qb = pb := by omega
      have ⟨P0, P1, P2, P3⟩ := P
      have ⟨Q0, Q1, Q2, Q3⟩ := Q
      have ⟨r0, r1, r2, r3⟩ := R
      have ⟨Z0, Z1, Z2, Z3⟩ := Z
      clear P Q R Z
      go_wp2_with fail
      go_region
      all_goals go_wp2
      all_goals refine bodyPost_ret (v := .tuple #[.agg #[.int .i64 (a), .int .i64 (l)], .agg #[.int .i64 (b), .int .i64 (m)]]) (by simp [results, Tryd.results10, go_sem, *]) rfl ⟨_, _, _, _, p2 + 1, rfl, by omega, by omega, by omega, by omega, by omega, by omega, by omega, by omega, ?_, ?_, ?_⟩
      all_goals first | omega | exact Tch.drew (tchHi (tchHi (tchHi (tchHi T (by omega)) (by omega)) (by omega)) (by omega)) | exact Rd.drew (rdHi (rdHi (rdHi (rdHi R4 (by omega)) (by omega)) (by omega)) (by omega))
    · rw [ok] at K
      simp only [SM.sel] at K
      obtain ⟨⟨g1, g2⟩, g3, g4⟩ := SK.okP_of ok
      have fb : 0 ≤ SK.farL l ∧ SK.farL l ≤ 129599999 := by unfold SK.farL; split <;> omega
      obtain ⟨fb0, fb1⟩ := fb
      generalize SK.farL l = f at *
      clear ok
      have ⟨P0, P1, P2, P3⟩ := P
      go_wp2_with fail
      refine (K _).mono ?_
      rintro e w4 ⟨rfl, Bx⟩
      clear P0 P1 P2 P3
      replace P := (P.kept Bx).alloc (.cells #[.int .i64 (-a), .int .i64 (f)] 24)
      replace Q := (Q.kept Bx).alloc (.cells #[.int .i64 (-a), .int .i64 (f)] 24)
      replace R := (R.kept Bx).alloc (.cells #[.int .i64 (-a), .int .i64 (f)] 24)
      replace Z := (Z.kept Bx).alloc (.cells #[.int .i64 (-a), .int .i64 (f)] 24)
      have hw := Bx.size
      have R4 := (R3.kept Bx).alloc (.cells #[.int .i64 (-a), .int .i64 (f)] 24)
      have T4 := (T.trans (Tch.ofBelow (k := k) (Bx.mono T.size))).alloc (Nat.le_trans T.size Bx.size) (.cells #[.int .i64 (-a), .int .i64 (f)] 24)
      have X := SK.Box.new w4 (-a) (f) 24
      clear T
      have T := T4
      clear T4 R3 K Bx
      clear Q
      have Q := X
      clear X
      go_wp2_with fail
      generalize hq : w4.heap.size = fb at *
      generalize w4.alloc (.cells #[.int .i64 (-a), .int .i64 (f)] 24) = w5 at *
      have n1 : ¬ w.heap.size = w.heap.size + 1 := by omega
      have n2 : ¬ w.heap.size = pb := by omega
      have n3 : ¬ w.heap.size = fb := by omega
      have n4 : ¬ w.heap.size + 1 = w.heap.size := by omega
      have n5 : ¬ w.heap.size + 1 = pb := by omega
      have n6 : ¬ w.heap.size + 1 = fb := by omega
      have n7 : ¬ pb = w.heap.size := by omega
      have n8 : ¬ pb = w.heap.size + 1 := by omega
      have n9 : ¬ pb = fb := by omega
      have n10 : ¬ fb = w.heap.size := by omega
      have n11 : ¬ fb = w.heap.size + 1 := by omega
      have n12 : ¬ fb = pb := by omega
      have ⟨P0, P1, P2, P3⟩ := P
      have ⟨Q0, Q1, Q2, Q3⟩ := Q
      have ⟨r0, r1, r2, r3⟩ := R
      have ⟨Z0, Z1, Z2, Z3⟩ := Z
      clear P Q R Z
      go_wp2_with fail
      go_region
      all_goals go_wp2
      all_goals refine bodyPost_ret (v := .tuple #[.agg #[.int .i64 (a), .int .i64 (l)], .agg #[.int .i64 (-a), .int .i64 (f)]]) (by simp [results, Tryd.results10, go_sem, *]) rfl ⟨_, _, _, _, p2 + 1, rfl, by omega, by omega, by omega, by omega, by omega, by omega, by omega, by omega, ?_, ?_, ?_⟩
      all_goals first | omega | exact Tch.drew (tchHi (tchHi (tchHi (tchHi T (by omega)) (by omega)) (by omega)) (by omega)) | exact Rd.drew (rdHi (rdHi (rdHi (rdHi R4 (by omega)) (by omega)) (by omega)) (by omega))
  · go_wp2_with fail
    have kP0 : ∀ f (q : Wd k w3 f), q.w.cell? ⟨pb, 0, none⟩ = some (.int .i64 a) := fun f q => (boxTch P q.tc P.lt (by omega)).c0
    refine LQ.region (Cr k w3) (ndV fun i => if i = 3 then some (isNum 129600000) else none) 4 [0, 1, 2, 3] (ndV_local _) (by kernel_rfl) (by kernel_rfl) Cr.mono (Cr.start 4 R3 (by omega)) ?_
    iterate 3 (refine LQ.stepD rfl rfl (fun N hN => ?_); go_simp; apply Exists.intro; refine ⟨fun _ _ _ => ?_, hN _ _ ?_⟩; exact And.intro rfl rfl; clear hN N)
    refine LQ.stepN rfl rfl (fun N hN => ?_)
    go_simp
    refine ⟨fun f q _ => And.intro rfl (pick_loose q 129600000 (by omega)), ?_⟩
    rintro u ⟨x, rfl, x0, x1⟩
    refine hN _ _ ?_
    clear hN N
    refine LQ.lexEnd ?_
    rintro w6 ⟨q, rfl⟩ kn
    clear kn kP0
    obtain ⟨p6, R6, q6⟩ := q.rd
    replace P := boxTch P q.tc P.lt (by omega)
    replace Q := boxTch Q q.tc Q.lt (by omega)
    replace R := boxTch R q.tc R.lt (by omega)
    replace Z := boxTch Z q.tc Z.lt (by omega)
    replace T := T.trans (q.tc.mono T.size)
    have hp6 : p6 + 200 * 0 ≤ 800000000 := q6
    generalize q.w = w6 at *
    clear R3
    simp only [List.drop]
    have ⟨Q0, Q1, Q2, Q3⟩ := Q
    go_wp2_with fail
    clear Q0 Q1 Q2 Q3
    replace Q := Q.set a x
    replace P := P.apart (c := qb) (o := 0) (by omega) (.int .i64 (a))
    replace P := P.apart (c := qb) (o := 1) (by omega) (.int .i64 (x))
    replace R := R.apart (c := qb) (o := 0) (by omega) (.int .i64 (a))
    replace R := R.apart (c := qb) (o := 1) (by omega) (.int .i64 (x))
    replace Z := Z.apart (c := qb) (o := 0) (by omega) (.int .i64 (a))
    replace Z := Z.apart (c := qb) (o := 1) (by omega) (.int .i64 (x))
    replace R6 := rdHi (o := 1) (v := .int .i64 x) (rdHi (o := 0) (v := .int .i64 a) R6 (show k < qb by omega)) (show k < qb by omega)
    replace T := tchHi (o := 1) (v := .int .i64 x) (tchHi (o := 0) (v := .int .i64 a) T (show w.heap.size ≤ qb by omega)) (show w.heap.size ≤ qb by omega)
    generalize (w6.setCell ⟨qb, 0, none⟩ (.int .i64 a)).setCell ⟨qb, 1, none⟩ (.int .i64 x) = w5 at *
    have n1 : ¬ w.heap.size = w.heap.size + 1 := by omega
    have n2 : ¬ w.heap.size = pb := by omega
    have n3 : ¬ w.heap.size = qb := by omega
    have n4 : ¬ w.heap.size + 1 = w.heap.size := by omega
    have n5 : ¬ w.heap.size + 1 = pb := by omega
    have n6 : ¬ w.heap.size + 1 = qb := by omega
    have n7 : ¬ pb = w.heap.size := by omega
    have n8 : ¬ pb = w.heap.size + 1 := by omega
    have n9 : ¬ pb = qb := by omega
    have n10 : ¬ qb = w.heap.size := by omega
    have n11 : ¬ qb = w.heap.size + 1 := by omega
    have n12 : ¬ qb = pb := by omega
    have ⟨P0, P1, P2, P3⟩ := P
    have ⟨Q0, Q1, Q2, Q3⟩ := Q
    have ⟨r0, r1, r2, r3⟩ := R
    have ⟨Z0, Z1, Z2, Z3⟩ := Z
    clear P Q R Z
    go_wp2_with fail
    go_region
    all_goals go_wp2
    all_goals refine bodyPost_ret (v := .tuple #[.agg #[.int .i64 (a), .int .i64 (l)], .agg #[.int .i64 (a), .int .i64 (x)]]) (by simp [results, Tryd.results10, go_sem, *]) rfl ⟨_, _, _, _, p6, rfl, by omega, by omega, by omega, by omega, by omega, by omega, by omega, by omega, ?_, ?_, ?_⟩
    all_goals first | omega | exact Tch.drew (tchHi (tchHi (tchHi (tchHi T (by omega)) (by omega)) (by omega)) (by omega)) | exact Rd.drew (rdHi (rdHi (rdHi (rdHi R6 (by omega)) (by omega)) (by omega)) (by omega))
  · have e0 : (v == 0) = false := by simp; omega
    have e1 : (v == 1) = false := by simp; omega
    have e2 : (v == 2) = false := by simp; omega
    have e3 : (v == 3) = false := by simp; omega
    go_wp2_with fail
    have n1 : ¬ w.heap.size = w.heap.size + 1 := by omega
    have n2 : ¬ w.heap.size = pb := by omega
    have n3 : ¬ w.heap.size = qb := by omega
    have n4 : ¬ w.heap.size + 1 = w.heap.size := by omega
    have n5 : ¬ w.heap.size + 1 = pb := by omega
    have n6 : ¬ w.heap.size + 1 = qb := by omega
    have n7 : ¬ pb = w.heap.size := by omega
    have n8 : ¬ pb = w.heap.size + 1 := by omega
    have n9 : ¬ pb = qb := by omega
    have n10 : ¬ qb = w.heap.size := by omega
    have n11 : ¬ qb = w.heap.size + 1 := by omega
    have n12 : ¬ qb = pb := by omega
    have ⟨P0, P1, P2, P3⟩ := P
    have ⟨Q0, Q1, Q2, Q3⟩ := Q
    have ⟨r0, r1, r2, r3⟩ := R
    have ⟨Z0, Z1, Z2, Z3⟩ := Z
    clear P Q R Z
    go_wp2_with fail
    go_region
    all_goals go_wp2
    all_goals refine bodyPost_ret (v := .tuple #[.agg #[.int .i64 (a), .int .i64 (l)], .agg #[.int .i64 (b), .int .i64 (m)]]) (by simp [results, Tryd.results10, go_sem, *]) rfl ⟨_, _, _, _, p2 + 1, rfl, by omega, by omega, by omega, by omega, by omega, by omega, by omega, by omega, ?_, ?_, ?_⟩
    all_goals first | omega | exact Tch.drew (tchHi (tchHi (tchHi (tchHi T (by omega)) (by omega)) (by omega)) (by omega)) | exact Rd.drew (rdHi (rdHi (rdHi (rdHi R3 (by omega)) (by omega)) (by omega)) (by omega))
end DS
end Go.Proofs.YtfdkpcejjcifganDoor
namespace Go.Proofs.YtfdkpcejjcifganDoor
open Go.RowKit Go.Sort
set_option linter.unusedVariables false
namespace DS
open DK DW DF SK
def isSpot (u : Value) : Prop := ∃ a l : Int, u = SK.spV a l ∧ -32400010 ≤ a ∧ a ≤ 32400010 ∧ -10 ≤ l ∧ l ≤ 129600010
/-- A world in which the reader has gone on, the two places being as they were; the answers' places lie from 'n0' on. -/
structure Wn (n0 : Nat) (w0 : World) (k c : Nat) (a l b m : Int) (f : Nat) where
  w : World
  rd : ∃ p, Rd w k p ∧ p + 200 * f ≤ 810000000
  bw : Below n0 w0 w
  p : SK.Box w c a l
  q : SK.Box w (c + 1) b m
  r : ∃ x x', SK.Box w n0 x x'
  y : ∃ x x', SK.Box w (n0 + 1) x x'
  v : ∃ x x', SK.Box w (n0 + 1 + 1) x x'
abbrev Cn (n0 : Nat) (w0 : World) (k c : Nat) (a l b m : Int) : Nat → World → Prop := fun f w' => ∃ q : Wn n0 w0 k c a l b m f, w' = q.w
theorem Cn.mono {n0 : Nat} {w0 : World} {k c : Nat} {a l b m : Int} : ∀ f w, Cn n0 w0 k c a l b m (f + 1) w → Cn n0 w0 k c a l b m f w := by
  rintro f w ⟨q, rfl⟩
  obtain ⟨p, h1, h2⟩ := q.rd
  exact ⟨⟨q.w, ⟨p, h1, by omega⟩, q.bw, q.p, q.q, q.r, q.y, q.v⟩, rfl⟩
theorem Cn.start {n0 : Nat} {w0 w : World} {k c p : Nat} {a l b m : Int} (n : Nat) (R : Rd w k p) (h : p + 200 * n ≤ 810000000) (B : Below n0 w0 w) (P : SK.Box w c a l) (Q : SK.Box w (c + 1) b m) (X : SK.Box w n0 0 0) (Y : SK.Box w (n0 + 1) 0 0) (V : SK.Box w (n0 + 1 + 1) 0 0) :
    Cn n0 w0 k c a l b m n { w with drawn := w.drawn + 1 } :=
  ⟨⟨w.drew, ⟨p, R.drew, h⟩, B.drew, ⟨P.c0, P.c1, P.f0, P.f1⟩, ⟨Q.c0, Q.c1, Q.f0, Q.f1⟩, ⟨0, 0, ⟨X.c0, X.c1, X.f0, X.f1⟩⟩, ⟨0, 0, ⟨Y.c0, Y.c1, Y.f0, Y.f1⟩⟩, ⟨0, 0, ⟨V.c0, V.c1, V.f0, V.f1⟩⟩⟩, rfl⟩
def ndN (n0 : Nat) (a l : Int) : Nat → Option (Act → Value → World → Prop) := fun i =>
  if i = 1 then some (fun _ u _ => isSpot u) else if i = 4 then some (fun t _ w => ∃ g n : Int, t.tmps.getD 16 undef = SK.spV g n ∧ SK.Box w n0 g n) else if i = 5 then some (fun _ _ w => SK.Box w (n0 + 1) a l) else none
theorem putD {a : Act} {dst : Option Tmp} {v : Value} {s : Nat} (h : dst ≠ some s) : (a.put dst v).tmps.getD s undef = a.tmps.getD s undef := by
  cases dst with
  | none => rfl
  | some d =>
    have hne : d ≠ s := fun e => h (by rw [e])
    simp [Act.put, Array.getElem?_setIfInBounds_ne hne]
theorem ndN_none {n0 x : Nat} {a l : Int} (h : ndN n0 a l x = none) : x ≠ 1 ∧ x ≠ 4 ∧ x ≠ 5 := by
  unfold ndN at h
  split at h
  · cases h
  · split at h
    · cases h
    · split at h
      · cases h
      · rename_i h1 h2 h3; exact ⟨h1, h2, h3⟩
theorem ndN_local {ops : Array Oper} {n0 : Nat} {a l : Int} (h : ((List.range ops.size).all fun x => x == 1 || (x == 4 || (x == 5 || ((ops[x]?).any fun o => o.dst != some 16)))) = true) : LZ.Local ops (ndN n0 a l) := by
  intro k Φ oj hn hj t dst v hd
  obtain ⟨_, x, ox, hx, hnx, rfl⟩ := hd
  have hn' := ndN_none hnx
  have hlt : x < ops.size := (Array.getElem?_eq_some_iff.1 hx).1
  have hz := List.all_eq_true.1 h x (List.mem_range.2 hlt)
  rw [hx] at hz
  simp only [Option.any_some, Bool.or_eq_true, beq_iff_eq, bne_iff_ne, ne_eq] at hz
  have hz' : ¬ ox.dst = some 16 := by
    rcases hz with e | e | e | e
    · exact absurd e hn'.1
    · exact absurd e hn'.2.1
    · exact absurd e hn'.2.2
    · exact e
  unfold ndN at hn
  split at hn
  · cases hn; rfl
  · split at hn
    · cases hn
      funext u w
      simp only [putD hz']
    · split at hn
      · cases hn; rfl
      · cases hn
theorem spot_loose {n0 : Nat} {w0 : World} {k c f : Nat} {a l b m : Int} (hc : c ≠ k) (hc1 : c + 1 ≠ k) (hr : n0 ≠ k) (hy : n0 + 1 ≠ k) (hv : n0 + 1 + 1 ≠ k) (hn : n0 ≤ k) (h0 : n0 ≤ w0.heap.size) (q : Wn n0 w0 k c a l b m (f + 1)) :
    Calls Tryd.prog 11 #[.pointer (some ⟨k, 0, none⟩)] q.w fun e w'' => ∃ u, e = .returned u ∧ Cn n0 w0 k c a l b m f w'' ∧ isSpot u ∧ LZ.KeepsK [] q.w w'' := by
  obtain ⟨p, R, hp⟩ := q.rd
  refine (l71Spot_any q.w k p (by omega) R).mono ?_
  rintro e w1 ⟨a, l, p1, rfl, a0, a1, l0, l1, q1, R1, T1⟩
  have mv : ∀ {d : Nat}, d ≠ k → (∃ x x', SK.Box q.w d x x') → ∃ x x', SK.Box w1 d x x' := fun hd ⟨x, x', X⟩ => ⟨x, x', boxTch X T1 X.lt hd⟩
  exact ⟨_, rfl, ⟨⟨w1, ⟨_, R1, by omega⟩, q.bw.trans (T1.toBelow (Nat.le_trans h0 q.bw.size) hn), boxTch q.p T1 q.p.lt hc, boxTch q.q T1 q.q.lt hc1, mv hr q.r, mv hy q.y, mv hv q.v⟩, rfl⟩, ⟨a, l, rfl, a0, a1, l0, l1⟩, fun x hx => by cases hx⟩
theorem store_n {n0 : Nat} {w0 : World} {k c f d : Nat} {a l b m x x' : Int} (hk : d ≠ k) (hc : d ≠ c) (hc1 : d ≠ c + 1) (hn : n0 ≤ d) (q : Wn n0 w0 k c a l b m (f + 1)) (X : SK.Box q.w d x x') (g n : Int) :
    Cn n0 w0 k c a l b m f ((q.w.setCell ⟨d, 0, none⟩ (.int .i64 g)).setCell ⟨d, 1, none⟩ (.int .i64 n)) ∧ SK.Box ((q.w.setCell ⟨d, 0, none⟩ (.int .i64 g)).setCell ⟨d, 1, none⟩ (.int .i64 n)) d g n := by
  obtain ⟨p, R, hp⟩ := q.rd
  have X' := X.set g n
  have mv : ∀ {e : Nat}, (∃ x x', SK.Box q.w e x x') → ∃ x x', SK.Box ((q.w.setCell ⟨d, 0, none⟩ (.int .i64 g)).setCell ⟨d, 1, none⟩ (.int .i64 n)) e x x' := fun {e} ⟨x, x', Z⟩ => by
    by_cases h : d = e
    · subst h; exact ⟨g, n, X'⟩
    · exact ⟨x, x', (Z.apart h _).apart h _⟩
  exact ⟨⟨⟨_, ⟨p, rdBox R X hk g n, by omega⟩, (q.bw.setCell (by simpa using hn) _).setCell (by simpa using hn) _, (q.p.apart hc _).apart hc _, (q.q.apart hc1 _).apart hc1 _, mv q.r, mv q.y, mv q.v⟩, rfl⟩, X'⟩
set_option maxHeartbeats 4000000 in
theorem drawSpotNear_any (w : World) (a : Option Addr) (len cap : Nat) (h : Src w a len cap) :
    Calls Tryd.prog 4 #[.slice a len cap] w fun e w' => ∃ g n a l b m : Int, e = .returned (.tuple #[SK.spV g n, SK.spV a l, SK.spV b m]) ∧ -32400010 ≤ g ∧ g ≤ 32400010 ∧ -10 ≤ n ∧ n ≤ 129600010 ∧ -32400010 ≤ a ∧ a ≤ 32400010 ∧ -10 ≤ l ∧ l ≤ 129600010 ∧ -32400010 ≤ b ∧ b ≤ 32400010 ∧ -10 ≤ m ∧ m ≤ 129600010 ∧ Below w.heap.size w w' := by
  have R := ((SK.Box.new w 0 0 24).alloc (.cells #[.int .i64 0, .int .i64 0] 24)).alloc (.cells #[.int .i64 0, .int .i64 0] 24)
  have Y := (SK.Box.new2 w (.cells #[.int .i64 0, .int .i64 0] 24) 0 0 24).alloc (.cells #[.int .i64 0, .int .i64 0] 24)
  have V : SK.Box (((w.alloc (.cells #[.int .i64 0, .int .i64 0] 24)).alloc (.cells #[.int .i64 0, .int .i64 0] 24)).alloc (.cells #[.int .i64 0, .int .i64 0] 24)) (w.heap.size + 1 + 1) 0 0 := by simpa using SK.Box.new ((w.alloc (.cells #[.int .i64 0, .int .i64 0] 24)).alloc (.cells #[.int .i64 0, .int .i64 0] 24)) 0 0 24
  have B0 := SK.below1 (SK.below_new2 w (.cells #[.int .i64 0, .int .i64 0] 24) (.cells #[.int .i64 0, .int .i64 0] 24)) (SK.below_new _ (.cells #[.int .i64 0, .int .i64 0] 24))
  have hk : w.heap.size + 1 + 1 + 1 ≤ (((w.alloc (.cells #[.int .i64 0, .int .i64 0] 24)).alloc (.cells #[.int .i64 0, .int .i64 0] 24)).alloc (.cells #[.int .i64 0, .int .i64 0] 24)).heap.size := by simp
  go_enter Tryd.func4, Tryd.ntmps4
  go_wp2_with fail
  refine (l6Open_any _ _ _ _ (h.kept B0)).mono ?_
  rintro e w1 ⟨rfl, R1, B1⟩
  replace R := R.kept B1
  replace Y := Y.kept B1
  replace V := V.kept B1
  have B := SK.below1 B0 B1
  generalize (((w.alloc (.cells #[.int .i64 0, .int .i64 0] 24)).alloc (.cells #[.int .i64 0, .int .i64 0] 24)).alloc (.cells #[.int .i64 0, .int .i64 0] 24)).heap.size = k at *
  clear B0 B1 h
  go_wp2_with fail
  refine (l71Spots_any _ k _ (by omega) R1).mono ?_
  rintro e w2 ⟨a, l, b, m, p2, rfl, a0, a1, l0, l1, b0, b1, m0, m1, q2, R2, T2⟩
  replace R := boxTch R T2 R.lt (by omega)
  replace Y := boxTch Y T2 Y.lt (by omega)
  replace V := boxTch V T2 V.lt (by omega)
  replace B := B.trans (T2.toBelow B.size (by omega))
  have hk2 := R2.lt
  clear T2 R1
  replace R := (R.alloc (.cells #[.int .i64 a, .int .i64 l] 24)).alloc (.cells #[.int .i64 b, .int .i64 m] 24)
  replace Y := (Y.alloc (.cells #[.int .i64 a, .int .i64 l] 24)).alloc (.cells #[.int .i64 b, .int .i64 m] 24)
  replace V := (V.alloc (.cells #[.int .i64 a, .int .i64 l] 24)).alloc (.cells #[.int .i64 b, .int .i64 m] 24)
  have P := (SK.Box.new w2 a l 24).alloc (.cells #[.int .i64 b, .int .i64 m] 24)
  have Q := SK.Box.new2 w2 (.cells #[.int .i64 a, .int .i64 l] 24) b m 24
  replace B := SK.below1 B (SK.below_new2 w2 (.cells #[.int .i64 a, .int .i64 l] 24) (.cells #[.int .i64 b, .int .i64 m] 24))
  have R3 := (R2.alloc (.cells #[.int .i64 a, .int .i64 l] 24)).alloc (.cells #[.int .i64 b, .int .i64 m] 24)
  clear R2
  go_wp2_with fail
  generalize (w2.alloc (.cells #[.int .i64 a, .int .i64 l] 24)).alloc (.cells #[.int .i64 b, .int .i64 m] 24) = w3 at *
  generalize w2.heap.size = pb at *
  have k0 : ∀ f (q : Wn w.heap.size w k pb a l b m f), q.w.cell? ⟨pb, 0, none⟩ = some (.int .i64 a) := fun f q => q.p.c0
  have k1 : ∀ f (q : Wn w.heap.size w k pb a l b m f), q.w.cell? ⟨pb, 1, none⟩ = some (.int .i64 l) := fun f q => q.p.c1
  have k2 : ∀ f (q : Wn w.heap.size w k pb a l b m f), q.w.cell? ⟨pb + 1, 0, none⟩ = some (.int .i64 b) := fun f q => q.q.c0
  have k3 : ∀ f (q : Wn w.heap.size w k pb a l b m f), q.w.cell? ⟨pb + 1, 1, none⟩ = some (.int .i64 m) := fun f q => q.q.c1
  refine LZ.regionT (Cn w.heap.size w k pb a l b m) (ndN w.heap.size a l) 6 (.det 0 (.det 2 (.det 3 (.one 1 (.one 4 (.one 5 .nil)))))) (ndN_local (by kernel_rfl)) (by kernel_rfl) (by kernel_rfl) Cn.mono (Cn.start 6 R3 (by omega) B P Q R Y V) ?_
  iterate 3 (refine LZ.stepDT rfl rfl (fun N hN => ?_); go_simp; apply Exists.intro; refine ⟨fun _ _ _ => ?_, hN _ _ ?_⟩; exact And.intro rfl rfl; clear hN N)
  refine LZ.stepOne ?_
  refine LZ.opN rfl rfl (fun N hN => ?_)
  go_simp
  refine ⟨fun f q _ => And.intro rfl (spot_loose (by omega) (by omega) (by omega) (by omega) (by omega) (by omega) (Nat.le_refl _) q), ?_⟩
  rintro u ⟨g, n, rfl, g0, g1, n0, n1⟩
  refine hN _ _ ?_
  clear hN N
  refine LZ.stepOne ?_
  refine LZ.opN rfl rfl (fun N hN => ?_)
  go_simp
  refine ⟨fun f q _ => ?_, fun _ _ => hN _ _ ?_⟩
  · obtain ⟨x, x', X⟩ := q.r
    have X' := X
    obtain ⟨e0, e1, e2, e3⟩ := X'
    go_simp
    have S := store_n (by omega) (by omega) (by omega) (Nat.le_refl _) q X g n
    exact ⟨S.1, ⟨g, n, ⟨rfl, rfl⟩, S.2⟩, fun x hx => by simp at hx; subst hx; exact fun h => h⟩
  clear hN N
  refine LZ.stepOne ?_
  refine LZ.opN rfl rfl (fun N hN => ?_)
  go_simp
  refine ⟨fun f q _ => ?_, fun _ _ => hN _ _ ?_⟩
  · obtain ⟨x, x', X⟩ := q.y
    have X' := X
    obtain ⟨e0, e1, e2, e3⟩ := X'
    go_simp
    have S := store_n (by omega) (by omega) (by omega) (by omega) q X a l
    refine ⟨S.1, S.2, fun x hx => ?_⟩
    simp only [List.mem_cons, List.not_mem_nil, or_false] at hx
    rcases hx with rfl | rfl
    · rintro ⟨g', n', he, Z⟩
      exact ⟨g', n', he, (Z.apart (by omega) _).apart (by omega) _⟩
    · exact fun h => h
  clear hN N
  refine LZ.lexEndT ?_
  rintro w6 ⟨q, rfl⟩ kn
  have Y6 : SK.Box q.w (w.heap.size + 1) a l := (kn _ (List.mem_cons_self ..)).2
  obtain ⟨g', n', ⟨rfl, rfl⟩, R6⟩ := (kn _ (List.mem_cons_of_mem _ (List.mem_cons_self ..))).2
  obtain ⟨x, x', V6⟩ := q.v
  have B6 := q.bw
  clear kn k0 k1 k2 k3
  generalize q.w = w6 at *
  clear R Y V P Q R3 B
  simp only [List.drop]
  have ⟨r0, r1, r2, r3⟩ := R6
  have ⟨y0, y1, y2, y3⟩ := Y6
  have ⟨v0, v1, v2, v3⟩ := V6
  clear R6 Y6 V6
  go_wp2
  refine bodyPost_ret (v := .tuple #[.agg #[.int .i64 g, .int .i64 n], .agg #[.int .i64 a, .int .i64 l], .agg #[.int .i64 b, .int .i64 m]]) (by simp [results, Tryd.results4, go_sem, *]) rfl ⟨_, _, _, _, _, _, rfl, g0, g1, n0, n1, a0, a1, l0, l1, b0, b1, m0, m1, ?_⟩
  exact SK.below_set2 B6 (by omega) _ _
end DS
end Go.Proofs.YtfdkpcejjcifganDoor
