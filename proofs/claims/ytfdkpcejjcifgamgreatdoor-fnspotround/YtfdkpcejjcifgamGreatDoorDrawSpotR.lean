/-
  Texts of chapter 21, laid as one.
-/
import Derived.Test.YtfdkpcejjcifgamGreatDoorDrawFan
import Derived.Test.YtfdkpcejjcifgamGreatDoorSpotWalks
import Derived.Test.YtfdkpcejjcifgamGreatDoorLoose2
import Derived.RegionTactic
import Derived.Test.YtfdkpcejjcifgamGreatDoorDrawNum
import Derived.Test.YtfdkpcejjcifgamGreatDoorLoose3
namespace Go.Proofs.YtfdkpcejjcifgamGreatDoor
open Go.RowKit Go.Sort
set_option linter.unusedVariables false
namespace DS
open DK DW DF SK
set_option maxHeartbeats 4000000 in
theorem l71Spot_any (w : World) (k p : Nat) (hp : p ≤ 850000000) (h : Rd w k p) :
    Calls Tryz.prog 25 #[.pointer (some ⟨k, 0, none⟩)] w fun e w' => ∃ a l : Int, ∃ p' : Nat, e = .returned (SK.spV a l) ∧ -32400010 ≤ a ∧ a ≤ 32400010 ∧ -10 ≤ l ∧ l ≤ 129600010 ∧ p' ≤ p + 40 ∧ Rd w' k p' ∧ Tch k w.heap.size w w' := by
  have hk := h.lt
  have R := SK.Box.new w 0 0 24
  have T := (Tch.refl k w.heap.size w).alloc (Nat.le_refl _) (.cells #[.int .i64 0, .int .i64 0] 24)
  go_enter Tryz.func25, Tryz.ntmps25
  go_wp2_with fail
  refine (l71Big_any _ k p _ (by omega) (h.alloc _) (by omega) (by omega)).mono ?_
  rintro e w1 ⟨u, p1, rfl, u0, u1, q1, R1, T1⟩
  replace R := boxTch R T1 R.lt (by omega)
  replace T := T.trans (T1.mono T.size)
  clear h T1
  go_wp2_with fail
  refine (l71Big_any _ k p1 _ (by omega) R1 (by omega) (by omega)).mono ?_
  rintro e w2 ⟨x, p2, rfl, x0, x1, q2, R2, T2⟩
  replace R := boxTch R T2 R.lt (by omega)
  have hR := R.lt
  replace T := T.trans (T2.mono T.size)
  have hs := T.size
  clear T2 R1
  have P := SK.Box.new w2 u (max x 0) 24
  replace R := R.alloc (.cells #[.int .i64 u, .int .i64 (max x 0)] 24)
  replace T := T.alloc hs (.cells #[.int .i64 u, .int .i64 (max x 0)] 24)
  replace R2 := R2.alloc (.cells #[.int .i64 u, .int .i64 (max x 0)] 24)
  have hk2 : k < w2.heap.size := by omega
  go_wp2_with fail
  refine (pick_any _ k _ _ (by omega) R2).mono ?_
  rintro e w4 ⟨v, rfl, v0, v1, R4, T4⟩
  replace v1 := v1 (by omega)
  replace R := boxTch R T4 R.lt (by omega)
  replace P := boxTch P T4 P.lt (by omega)
  replace T := T.trans (T4.mono T.size)
  clear T4 R2
  generalize w2.heap.size = pb at *
  have hP := P.lt
  rcases (show v = 0 ∨ v = 1 ∨ v = 2 ∨ v = 3 ∨ (v = 4 ∨ v = 5 ∨ v = 6) ∨ 7 ≤ v by omega) with rfl | rfl | rfl | rfl | v2 | v2
  · go_wp2_with fail
    refine (pick_any _ k _ _ (by omega) (R4.alloc _)).mono ?_
    rintro e w5 ⟨z, rfl, z0, z1, R5, T5⟩
    replace z1 := z1 (by omega)
    replace P := boxTch (P.alloc (.cells #[.int .i64 32400000, .int .i64 (-32400000)] 3)) T5 (P.alloc (.cells #[.int .i64 32400000, .int .i64 (-32400000)] 3)).lt (by omega)
    replace R := boxTch (R.alloc (.cells #[.int .i64 32400000, .int .i64 (-32400000)] 3)) T5 (R.alloc (.cells #[.int .i64 32400000, .int .i64 (-32400000)] 3)).lt (by omega)
    replace T := (T.alloc T.size (.cells #[.int .i64 32400000, .int .i64 (-32400000)] 3)).trans (T5.mono (by have := T.size; simp; omega))
    have hb4 : k < w4.heap.size := R4.lt
    rcases (show z = 0 ∨ z = 1 by omega) with rfl | rfl
    · have hc : w5.cell? ⟨w4.heap.size, 0, none⟩ = some (.int .i64 (32400000)) := by rw [T5.cell (by simp) (by omega)]; simp [go_sem]
      clear T5 R4
      have ⟨R0, R1, R2, R3⟩ := R.apart (c := pb) (o := 0) (by omega) (.int .i64 (32400000))
      have ⟨P0, P1, P2, P3⟩ := P
      clear P R
      go_wp2
      refine bodyPost_ret (v := .agg #[.int .i64 (32400000), .int .i64 (max x 0)]) (by simp [results, Tryz.results25, go_sem, *]) rfl ⟨_, _, _, rfl, by omega, by omega, by omega, by omega, by omega, rdHi (rdHi (rdHi R5 (by omega)) (by omega)) (by omega), tchHi (tchHi (tchHi T (by omega)) (by omega)) (by omega)⟩
    · have hc : w5.cell? ⟨w4.heap.size, 1, none⟩ = some (.int .i64 (-32400000)) := by rw [T5.cell (by simp) (by omega)]; simp [go_sem]
      clear T5 R4
      have ⟨R0, R1, R2, R3⟩ := R.apart (c := pb) (o := 0) (by omega) (.int .i64 (-32400000))
      have ⟨P0, P1, P2, P3⟩ := P
      clear P R
      go_wp2
      refine bodyPost_ret (v := .agg #[.int .i64 (-32400000), .int .i64 (max x 0)]) (by simp [results, Tryz.results25, go_sem, *]) rfl ⟨_, _, _, rfl, by omega, by omega, by omega, by omega, by omega, rdHi (rdHi (rdHi R5 (by omega)) (by omega)) (by omega), tchHi (tchHi (tchHi T (by omega)) (by omega)) (by omega)⟩
  · have ⟨R0, R1, R2, R3⟩ := R.apart (c := pb) (o := 0) (by omega) (.int .i64 (0))
    have ⟨P0, P1, P2, P3⟩ := P
    clear P R
    go_wp2
    refine bodyPost_ret (v := .agg #[.int .i64 (0), .int .i64 (max x 0)]) (by simp [results, Tryz.results25, go_sem, *]) rfl ⟨_, _, _, rfl, by omega, by omega, by omega, by omega, by omega, rdHi (rdHi (rdHi R4 (by omega)) (by omega)) (by omega), tchHi (tchHi (tchHi T (by omega)) (by omega)) (by omega)⟩
  · go_wp2_with fail
    refine (pick_any _ k _ _ (by omega) (R4.alloc _)).mono ?_
    rintro e w5 ⟨z, rfl, z0, z1, R5, T5⟩
    replace z1 := z1 (by omega)
    replace P := boxTch (P.alloc (.cells #[.int .i64 32400001, .int .i64 (-32400001)] 3)) T5 (P.alloc (.cells #[.int .i64 32400001, .int .i64 (-32400001)] 3)).lt (by omega)
    replace R := boxTch (R.alloc (.cells #[.int .i64 32400001, .int .i64 (-32400001)] 3)) T5 (R.alloc (.cells #[.int .i64 32400001, .int .i64 (-32400001)] 3)).lt (by omega)
    replace T := (T.alloc T.size (.cells #[.int .i64 32400001, .int .i64 (-32400001)] 3)).trans (T5.mono (by have := T.size; simp; omega))
    have hb4 : k < w4.heap.size := R4.lt
    rcases (show z = 0 ∨ z = 1 by omega) with rfl | rfl
    · have hc : w5.cell? ⟨w4.heap.size, 0, none⟩ = some (.int .i64 (32400001)) := by rw [T5.cell (by simp) (by omega)]; simp [go_sem]
      clear T5 R4
      have ⟨R0, R1, R2, R3⟩ := R.apart (c := pb) (o := 0) (by omega) (.int .i64 (32400001))
      have ⟨P0, P1, P2, P3⟩ := P
      clear P R
      go_wp2
      refine bodyPost_ret (v := .agg #[.int .i64 (32400001), .int .i64 (max x 0)]) (by simp [results, Tryz.results25, go_sem, *]) rfl ⟨_, _, _, rfl, by omega, by omega, by omega, by omega, by omega, rdHi (rdHi (rdHi R5 (by omega)) (by omega)) (by omega), tchHi (tchHi (tchHi T (by omega)) (by omega)) (by omega)⟩
    · have hc : w5.cell? ⟨w4.heap.size, 1, none⟩ = some (.int .i64 (-32400001)) := by rw [T5.cell (by simp) (by omega)]; simp [go_sem]
      clear T5 R4
      have ⟨R0, R1, R2, R3⟩ := R.apart (c := pb) (o := 0) (by omega) (.int .i64 (-32400001))
      have ⟨P0, P1, P2, P3⟩ := P
      clear P R
      go_wp2
      refine bodyPost_ret (v := .agg #[.int .i64 (-32400001), .int .i64 (max x 0)]) (by simp [results, Tryz.results25, go_sem, *]) rfl ⟨_, _, _, rfl, by omega, by omega, by omega, by omega, by omega, rdHi (rdHi (rdHi R5 (by omega)) (by omega)) (by omega), tchHi (tchHi (tchHi T (by omega)) (by omega)) (by omega)⟩
  · go_wp2_with fail
    refine (pick_any _ k _ _ (by omega) (R4.alloc _)).mono ?_
    rintro e w5 ⟨z, rfl, z0, z1, R5, T5⟩
    replace z1 := z1 (by omega)
    replace P := boxTch (P.alloc (.cells #[.int .i64 (-1), .int .i64 129600000] 3)) T5 (P.alloc (.cells #[.int .i64 (-1), .int .i64 129600000] 3)).lt (by omega)
    replace R := boxTch (R.alloc (.cells #[.int .i64 (-1), .int .i64 129600000] 3)) T5 (R.alloc (.cells #[.int .i64 (-1), .int .i64 129600000] 3)).lt (by omega)
    replace T := (T.alloc T.size (.cells #[.int .i64 (-1), .int .i64 129600000] 3)).trans (T5.mono (by have := T.size; simp; omega))
    have hb4 : k < w4.heap.size := R4.lt
    rcases (show z = 0 ∨ z = 1 by omega) with rfl | rfl
    · have hc : w5.cell? ⟨w4.heap.size, 0, none⟩ = some (.int .i64 (-1)) := by rw [T5.cell (by simp) (by omega)]; simp [go_sem]
      clear T5 R4
      have ⟨R0, R1, R2, R3⟩ := R.apart (c := pb) (o := 1) (by omega) (.int .i64 (-1))
      have ⟨P0, P1, P2, P3⟩ := P
      clear P R
      go_wp2
      refine bodyPost_ret (v := .agg #[.int .i64 (u), .int .i64 (-1)]) (by simp [results, Tryz.results25, go_sem, *]) rfl ⟨_, _, _, rfl, by omega, by omega, by omega, by omega, by omega, rdHi (rdHi (rdHi R5 (by omega)) (by omega)) (by omega), tchHi (tchHi (tchHi T (by omega)) (by omega)) (by omega)⟩
    · have hc : w5.cell? ⟨w4.heap.size, 1, none⟩ = some (.int .i64 (129600000)) := by rw [T5.cell (by simp) (by omega)]; simp [go_sem]
      clear T5 R4
      have ⟨R0, R1, R2, R3⟩ := R.apart (c := pb) (o := 1) (by omega) (.int .i64 (129600000))
      have ⟨P0, P1, P2, P3⟩ := P
      clear P R
      go_wp2
      refine bodyPost_ret (v := .agg #[.int .i64 (u), .int .i64 (129600000)]) (by simp [results, Tryz.results25, go_sem, *]) rfl ⟨_, _, _, rfl, by omega, by omega, by omega, by omega, by omega, rdHi (rdHi (rdHi R5 (by omega)) (by omega)) (by omega), tchHi (tchHi (tchHi T (by omega)) (by omega)) (by omega)⟩
  · rcases v2 with rfl | rfl | rfl
    · go_wp2_with fail
      refine (pick_any _ k _ _ (by omega) R4).mono ?_
      rintro e w5 ⟨z, rfl, z0, z1, R5, T5⟩
      replace z1 := z1 (by omega)
      replace P := boxTch P T5 P.lt (by omega)
      replace R := boxTch R T5 R.lt (by omega)
      replace T := T.trans (T5.mono T.size)
      clear T5 R4
      have ⟨R0, R1, R2, R3⟩ := R.apart (c := pb) (o := 1) (by omega) (.int .i64 (z * 32400000))
      have ⟨P0, P1, P2, P3⟩ := P
      clear P R
      go_wp2
      refine bodyPost_ret (v := .agg #[.int .i64 (u), .int .i64 (z * 32400000)]) (by simp [results, Tryz.results25, go_sem, *]) rfl ⟨_, _, _, rfl, by omega, by omega, by omega, by omega, by omega, rdHi (rdHi (rdHi R5 (by omega)) (by omega)) (by omega), tchHi (tchHi (tchHi T (by omega)) (by omega)) (by omega)⟩
    · go_wp2_with fail
      refine (pick_any _ k _ _ (by omega) R4).mono ?_
      rintro e w5 ⟨z, rfl, z0, z1, R5, T5⟩
      replace z1 := z1 (by omega)
      replace P := boxTch P T5 P.lt (by omega)
      replace R := boxTch R T5 R.lt (by omega)
      replace T := T.trans (T5.mono T.size)
      clear T5 R4
      have ⟨R0, R1, R2, R3⟩ := R.apart (c := pb) (o := 1) (by omega) (.int .i64 (z * 32400000))
      have ⟨P0, P1, P2, P3⟩ := P
      clear P R
      go_wp2
      refine bodyPost_ret (v := .agg #[.int .i64 (u), .int .i64 (z * 32400000)]) (by simp [results, Tryz.results25, go_sem, *]) rfl ⟨_, _, _, rfl, by omega, by omega, by omega, by omega, by omega, rdHi (rdHi (rdHi R5 (by omega)) (by omega)) (by omega), tchHi (tchHi (tchHi T (by omega)) (by omega)) (by omega)⟩
    · go_wp2_with fail
      refine (pick_any _ k _ _ (by omega) R4).mono ?_
      rintro e w5 ⟨z, rfl, z0, z1, R5, T5⟩
      replace z1 := z1 (by omega)
      replace P := boxTch P T5 P.lt (by omega)
      replace R := boxTch R T5 R.lt (by omega)
      replace T := T.trans (T5.mono T.size)
      clear T5 R4
      have ⟨R0, R1, R2, R3⟩ := R.apart (c := pb) (o := 1) (by omega) (.int .i64 (z * 32400000))
      have ⟨P0, P1, P2, P3⟩ := P
      clear P R
      go_wp2
      refine bodyPost_ret (v := .agg #[.int .i64 (u), .int .i64 (z * 32400000)]) (by simp [results, Tryz.results25, go_sem, *]) rfl ⟨_, _, _, rfl, by omega, by omega, by omega, by omega, by omega, rdHi (rdHi (rdHi R5 (by omega)) (by omega)) (by omega), tchHi (tchHi (tchHi T (by omega)) (by omega)) (by omega)⟩
  · have e0 : (v == 0) = false := by simp; omega
    have e1 : (v == 1) = false := by simp; omega
    have e2 : (v == 2) = false := by simp; omega
    have e3 : (v == 3) = false := by simp; omega
    have e4 : (v == 4) = false := by simp; omega
    have e5 : (v == 5) = false := by simp; omega
    have e6 : (v == 6) = false := by simp; omega
    have ⟨P0, P1, P2, P3⟩ := P
    have ⟨R0, R1, R2, R3⟩ := R
    clear P R
    go_wp2
    refine bodyPost_ret (v := .agg #[.int .i64 (u), .int .i64 (max x 0)]) (by simp [results, Tryz.results25, go_sem, *]) rfl ⟨_, _, _, rfl, by omega, by omega, by omega, by omega, by omega, rdHi (rdHi R4 (by omega)) (by omega), tchHi (tchHi T (by omega)) (by omega)⟩
end DS
end Go.Proofs.YtfdkpcejjcifgamGreatDoor
namespace Go.Proofs.YtfdkpcejjcifgamGreatDoor
open Go.RowKit Go.Sort
set_option linter.unusedVariables false
namespace DS
open DK DW DF SK
/-- A world in which the reader has gone on from 'w0', so many draws being left. -/
structure Wd (k : Nat) (w0 : World) (f : Nat) where
  w : World
  rd : ∃ p, Rd w k p ∧ p + 200 * f ≤ 800000000
  tc : Tch k w0.heap.size w0 w
abbrev Cr (k : Nat) (w0 : World) : Nat → World → Prop := fun f w' => ∃ q : Wd k w0 f, w' = q.w
theorem Cr.mono {k : Nat} {w0 : World} : ∀ f w, Cr k w0 (f + 1) w → Cr k w0 f w := by
  rintro f w ⟨q, rfl⟩
  obtain ⟨p, h1, h2⟩ := q.rd
  exact ⟨⟨q.w, ⟨p, h1, by omega⟩, q.tc⟩, rfl⟩
theorem Cr.start {k p : Nat} {w0 : World} (n : Nat) (R : Rd w0 k p) (h : p + 200 * n ≤ 800000000) : Cr k w0 n { w0 with drawn := w0.drawn + 1 } :=
  ⟨⟨w0.drew, ⟨p, R.drew, h⟩, (Tch.refl _ _ _).drew⟩, rfl⟩
/-- Values of which only themselves are known. -/
def ndV (g : Nat → Option (Value → Prop)) : Nat → Option (Act → Value → World → Prop) := fun i => (g i).map fun φ _ u _ => φ u
theorem ndV_local {ops : Array Oper} (g : Nat → Option (Value → Prop)) : LQ.Local ops (ndV g) := by
  intro j Φ oj hn _ a dst v _
  unfold ndV at hn
  obtain ⟨φ, _, rfl⟩ := Option.map_eq_some_iff.1 hn
  rfl
theorem ndV_keeps {g : Nat → Option (Value → Prop)} {w w' : World} : LQ.Keeps (ndV g) w w' := by
  intro i Φ a u hn h
  unfold ndV at hn
  obtain ⟨φ, _, rfl⟩ := Option.map_eq_some_iff.1 hn
  exact h
def isNum (n : Int) (u : Value) : Prop := ∃ z : Int, u = .int .i64 z ∧ 0 ≤ z ∧ z < n
theorem pick_loose {g : Nat → Option (Value → Prop)} {k f : Nat} {w0 : World} (q : Wd k w0 (f + 1)) (n : Int) (hn : 1 ≤ n) :
    Calls Tryz.prog 11 #[.pointer (some ⟨k, 0, none⟩), .int .i64 n] q.w fun e w'' => ∃ u, e = .returned u ∧ Cr k w0 f w'' ∧ (∃ z : Int, u = .int .i64 z ∧ 0 ≤ z ∧ z < n) ∧ LQ.Keeps (ndV g) q.w w'' := by
  obtain ⟨p, R, hp⟩ := q.rd
  refine (pick_any q.w k p n (by omega) R).mono ?_
  rintro e w1 ⟨v, rfl, v0, v1, R1, T1⟩
  exact ⟨_, rfl, ⟨⟨w1, ⟨_, R1, by omega⟩, q.tc.trans (T1.mono q.tc.size)⟩, rfl⟩, ⟨v, rfl, v0, v1 hn⟩, ndV_keeps⟩
set_option maxHeartbeats 4000000 in
theorem l71Spots_any (w : World) (k p : Nat) (hp : p ≤ 700000000) (h : Rd w k p) :
    Calls Tryz.prog 10 #[.pointer (some ⟨k, 0, none⟩)] w fun e w' => ∃ a l b m : Int, ∃ p' : Nat, e = .returned (.tuple #[SK.spV a l, SK.spV b m]) ∧ -32400010 ≤ a ∧ a ≤ 32400010 ∧ -10 ≤ l ∧ l ≤ 129600010 ∧ -32400010 ≤ b ∧ b ≤ 32400010 ∧ -10 ≤ m ∧ m ≤ 129600010 ∧ p' ≤ 800000000 ∧ Rd w' k p' ∧ Tch k w.heap.size w w' := by
  have hk := h.lt
  have R := (SK.Box.new w 0 0 24).alloc (.cells #[.int .i64 0, .int .i64 0] 24)
  have Z := SK.Box.new2 w (.cells #[.int .i64 0, .int .i64 0] 24) 0 0 24
  have T := ((Tch.refl k w.heap.size w).alloc (Nat.le_refl _) (.cells #[.int .i64 0, .int .i64 0] 24)).alloc (by simp) (.cells #[.int .i64 0, .int .i64 0] 24)
  go_enter Tryz.func10, Tryz.ntmps10
  go_wp2_with fail
  refine (l71Spot_any _ k p (by omega) ((h.alloc _).alloc _)).mono ?_
  rintro e w1 ⟨a, l, p1, rfl, a0, a1, l0, l1, q1, R1, T1⟩
  replace R := boxTch R T1 R.lt (by omega)
  replace Z := boxTch Z T1 Z.lt (by omega)
  replace T := T.trans (T1.mono T.size)
  have hZ := Z.lt
  clear h T1
  have P := SK.Box.new w1 a l 24
  replace R := R.alloc (.cells #[.int .i64 a, .int .i64 l] 24)
  replace Z := Z.alloc (.cells #[.int .i64 a, .int .i64 l] 24)
  replace T := T.alloc T.size (.cells #[.int .i64 a, .int .i64 l] 24)
  replace R1 := R1.alloc (.cells #[.int .i64 a, .int .i64 l] 24)
  go_wp2_with fail
  refine (l71Spot_any _ k p1 (by omega) R1).mono ?_
  rintro e w2 ⟨b, m, p2, rfl, b0, b1, m0, m1, q2, R2, T2⟩
  replace R := boxTch R T2 R.lt (by omega)
  replace Z := boxTch Z T2 Z.lt (by omega)
  replace P := boxTch P T2 P.lt (by omega)
  replace T := T.trans (T2.mono T.size)
  have hP := P.lt
  clear T2 R1
  have Q := SK.Box.new w2 b m 24
  replace R := R.alloc (.cells #[.int .i64 b, .int .i64 m] 24)
  replace Z := Z.alloc (.cells #[.int .i64 b, .int .i64 m] 24)
  replace P := P.alloc (.cells #[.int .i64 b, .int .i64 m] 24)
  replace T := T.alloc T.size (.cells #[.int .i64 b, .int .i64 m] 24)
  replace R2 := R2.alloc (.cells #[.int .i64 b, .int .i64 m] 24)
  go_wp2_with fail
  refine (pick_any _ k _ _ (by omega) R2).mono ?_
  rintro e w3 ⟨v, rfl, v0, v1, R3, T3⟩
  replace v1 := v1 (by omega)
  replace R := boxTch R T3 R.lt (by omega)
  replace Z := boxTch Z T3 Z.lt (by omega)
  replace P := boxTch P T3 P.lt (by omega)
  replace Q := boxTch Q T3 Q.lt (by omega)
  replace T := T.trans (T3.mono T.size)
  have hQ := Q.lt
  clear T3 R2
  generalize w1.heap.size = pb at *
  generalize w2.heap.size = qb at *
  rcases (show v = 0 ∨ v = 1 ∨ v = 2 ∨ v = 3 ∨ 4 ≤ v by omega) with rfl | rfl | rfl | rfl | v2
  · have ⟨P0, P1, P2, P3⟩ := P
    have ⟨Q0, Q1, Q2, Q3⟩ := Q
    go_wp2_with fail
    clear P0 P1 P2 P3 Q0 Q1 Q2 Q3
    replace Q := Q.set a l
    replace P := P.apart (c := qb) (o := 0) (by omega) (.int .i64 (a))
    replace P := P.apart (c := qb) (o := 1) (by omega) (.int .i64 (l))
    replace R := R.apart (c := qb) (o := 0) (by omega) (.int .i64 (a))
    replace R := R.apart (c := qb) (o := 1) (by omega) (.int .i64 (l))
    replace Z := Z.apart (c := qb) (o := 0) (by omega) (.int .i64 (a))
    replace Z := Z.apart (c := qb) (o := 1) (by omega) (.int .i64 (l))
    replace R3 := rdHi (o := 1) (v := .int .i64 l) (rdHi (o := 0) (v := .int .i64 a) R3 (show k < qb by omega)) (show k < qb by omega)
    replace T := tchHi (o := 1) (v := .int .i64 l) (tchHi (o := 0) (v := .int .i64 a) T (show w.heap.size ≤ qb by omega)) (show w.heap.size ≤ qb by omega)
    generalize (w3.setCell ⟨qb, 0, none⟩ (.int .i64 a)).setCell ⟨qb, 1, none⟩ (.int .i64 l) = w5 at *
    have n1 : ¬ w.heap.size = w.heap.size + 1 := by omega
    have n2 : ¬ w.heap.size = pb := by omega
    have n3 : ¬ w.heap.size = qb := by omega
    have n4 : ¬ w.heap.size + 1 = w.heap.size := by omega
    have n5 : ¬ w.heap.size + 1 = pb := by omega
    have n6 : ¬ w.heap.size + 1 = qb := by omega
    have n7 : ¬ pb = w.heap.size := by omega
    have n8 : ¬ pb = w.heap.size + 1 := by omega
    have n9 : ¬ pb = qb := by omega
    have n10 : ¬ qb = w.heap.size := by omega
    have n11 : ¬ qb = w.heap.size + 1 := by omega
    have n12 : ¬ qb = pb := by omega
    have ⟨P0, P1, P2, P3⟩ := P
    have ⟨Q0, Q1, Q2, Q3⟩ := Q
    have ⟨r0, r1, r2, r3⟩ := R
    have ⟨Z0, Z1, Z2, Z3⟩ := Z
    clear P Q R Z
    go_wp2_with fail
    go_region
    all_goals go_wp2
    all_goals refine bodyPost_ret (v := .tuple #[.agg #[.int .i64 (a), .int .i64 (l)], .agg #[.int .i64 (a), .int .i64 (l)]]) (by simp [results, Tryz.results10, go_sem, *]) rfl ⟨_, _, _, _, p2 + 1, rfl, by omega, by omega, by omega, by omega, by omega, by omega, by omega, by omega, ?_, ?_, ?_⟩
    all_goals first | omega | exact Tch.drew (tchHi (tchHi (tchHi (tchHi T (by omega)) (by omega)) (by omega)) (by omega)) | exact Rd.drew (rdHi (rdHi (rdHi (rdHi R3 (by omega)) (by omega)) (by omega)) (by omega))
  · have ⟨P0, P1, P2, P3⟩ := P
    have ⟨Q0, Q1, Q2, Q3⟩ := Q
    go_wp2_with fail
    clear P0 P1 P2 P3 Q0 Q1 Q2 Q3
    replace Q : SK.Box (w3.setCell ⟨qb, 1, none⟩ (.int .i64 l)) qb b l := by obtain ⟨c0, c1, f0, f1⟩ := Q; exact ⟨by simp [go_sem, *], by simp [go_sem, *], by simp [go_sem, *], by simp [go_sem, *]⟩
    replace P := P.apart (c := qb) (o := 1) (by omega) (.int .i64 (l))
    replace R := R.apart (c := qb) (o := 1) (by omega) (.int .i64 (l))
    replace Z := Z.apart (c := qb) (o := 1) (by omega) (.int .i64 (l))
    replace R3 := rdHi (o := 1) (v := .int .i64 l) R3 (show k < qb by omega)
    replace T := tchHi (o := 1) (v := .int .i64 l) T (show w.heap.size ≤ qb by omega)
    generalize w3.setCell ⟨qb, 1, none⟩ (.int .i64 l) = w5 at *
    have n1 : ¬ w.heap.size = w.heap.size + 1 := by omega
    have n2 : ¬ w.heap.size = pb := by omega
    have n3 : ¬ w.heap.size = qb := by omega
    have n4 : ¬ w.heap.size + 1 = w.heap.size := by omega
    have n5 : ¬ w.heap.size + 1 = pb := by omega
    have n6 : ¬ w.heap.size + 1 = qb := by omega
    have n7 : ¬ pb = w.heap.size := by omega
    have n8 : ¬ pb = w.heap.size + 1 := by omega
    have n9 : ¬ pb = qb := by omega
    have n10 : ¬ qb = w.heap.size := by omega
    have n11 : ¬ qb = w.heap.size + 1 := by omega
    have n12 : ¬ qb = pb := by omega
    have ⟨P0, P1, P2, P3⟩ := P
    have ⟨Q0, Q1, Q2, Q3⟩ := Q
    have ⟨r0, r1, r2, r3⟩ := R
    have ⟨Z0, Z1, Z2, Z3⟩ := Z
    clear P Q R Z
    go_wp2_with fail
    go_region
    all_goals go_wp2
    all_goals refine bodyPost_ret (v := .tuple #[.agg #[.int .i64 (a), .int .i64 (l)], .agg #[.int .i64 (b), .int .i64 (l)]]) (by simp [results, Tryz.results10, go_sem, *]) rfl ⟨_, _, _, _, p2 + 1, rfl, by omega, by omega, by omega, by omega, by omega, by omega, by omega, by omega, ?_, ?_, ?_⟩
    all_goals first | omega | exact Tch.drew (tchHi (tchHi (tchHi (tchHi T (by omega)) (by omega)) (by omega)) (by omega)) | exact Rd.drew (rdHi (rdHi (rdHi (rdHi R3 (by omega)) (by omega)) (by omega)) (by omega))
  · have K := fun w => SK.sSpotFar_any a l w
    cases ok : SK.okP a l
    · rw [ok] at K
      simp only [SM.sel] at K
      clear ok
      have ⟨P0, P1, P2, P3⟩ := P
      go_wp2_with fail
      refine (K _).mono ?_
      rintro e w4 ⟨rfl, Bx⟩
      clear P0 P1 P2 P3
      replace P := (P.kept Bx).alloc (.cells #[.int .i64 (0), .int .i64 (0)] 24)
      replace Q := (Q.kept Bx).alloc (.cells #[.int .i64 (0), .int .i64 (0)] 24)
      replace R := (R.kept Bx).alloc (.cells #[.int .i64 (0), .int .i64 (0)] 24)
      replace Z := (Z.kept Bx).alloc (.cells #[.int .i64 (0), .int .i64 (0)] 24)
      have hw := Bx.size
      have R4 := (R3.kept Bx).alloc (.cells #[.int .i64 (0), .int .i64 (0)] 24)
      have T4 := (T.trans (Tch.ofBelow (k := k) (Bx.mono T.size))).alloc (Nat.le_trans T.size Bx.size) (.cells #[.int .i64 (0), .int .i64 (0)] 24)
      have X := SK.Box.new w4 (0) (0) 24
      clear T
      have T := T4
      clear T4 R3 K Bx
      clear X
      go_wp2_with fail
      generalize w4.alloc (.cells #[.int .i64 (0), .int .i64 (0)] 24) = w5 at *
      have n1 : ¬ w.heap.size = w.heap.size + 1 := by omega
      have n2 : ¬ w.heap.size = pb := by omega
      have n3 : ¬ w.heap.size = qb := by omega
      have n4 : ¬ w.heap.size + 1 = w.heap.size := by omega
      have n5 : ¬ w.heap.size + 1 = pb := by omega
      have n6 : ¬ w.heap.size + 1 = qb := by omega
      have n7 : ¬ pb = w.heap.size := by omega
      have n8 : ¬ pb = w.heap.size + 1 := by omega
      have n9 : ¬ pb = qb := by omega
      have n10 : ¬ qb = w.heap.size := by omega
      have n11 : ¬ qb = w.heap.size + 1 := by omega
      have n12 : ¬ qb = pb := by omega
      have ⟨P0, P1, P2, P3⟩ := P
      have ⟨Q0, Q1, Q2, Q3⟩ := Q
      have ⟨r0, r1, r2, r3⟩ := R
      have ⟨Z0, Z1, Z2, Z3⟩ := Z
      clear P Q R Z
      go_wp2_with fail
      go_region
      all_goals go_wp2
      all_goals refine bodyPost_ret (v := .tuple #[.agg #[.int .i64 (a), .int .i64 (l)], .agg #[.int .i64 (b), .int .i64 (m)]]) (by simp [results, Tryz.results10, go_sem, *]) rfl ⟨_, _, _, _, p2 + 1, rfl, by omega, by omega, by omega, by omega, by omega, by omega, by omega, by omega, ?_, ?_, ?_⟩
      all_goals first | omega | exact Tch.drew (tchHi (tchHi (tchHi (tchHi T (by omega)) (by omega)) (by omega)) (by omega)) | exact Rd.drew (rdHi (rdHi (rdHi (rdHi R4 (by omega)) (by omega)) (by omega)) (by omega))
    · rw [ok] at K
      simp only [SM.sel] at K
      obtain ⟨⟨g1, g2⟩, g3, g4⟩ := SK.okP_of ok
      have fb : 0 ≤ SK.farL l ∧ SK.farL l ≤ 129599999 := by unfold SK.farL; split <;> omega
      obtain ⟨fb0, fb1⟩ := fb
      generalize SK.farL l = f at *
      clear ok
      have ⟨P0, P1, P2, P3⟩ := P
      go_wp2_with fail
      refine (K _).mono ?_
      rintro e w4 ⟨rfl, Bx⟩
      clear P0 P1 P2 P3
      replace P := (P.kept Bx).alloc (.cells #[.int .i64 (-a), .int .i64 (f)] 24)
      replace Q := (Q.kept Bx).alloc (.cells #[.int .i64 (-a), .int .i64 (f)] 24)
      replace R := (R.kept Bx).alloc (.cells #[.int .i64 (-a), .int .i64 (f)] 24)
      replace Z := (Z.kept Bx).alloc (.cells #[.int .i64 (-a), .int .i64 (f)] 24)
      have hw := Bx.size
      have R4 := (R3.kept Bx).alloc (.cells #[.int .i64 (-a), .int .i64 (f)] 24)
      have T4 := (T.trans (Tch.ofBelow (k := k) (Bx.mono T.size))).alloc (Nat.le_trans T.size Bx.size) (.cells #[.int .i64 (-a), .int .i64 (f)] 24)
      have X := SK.Box.new w4 (-a) (f) 24
      clear T
      have T := T4
      clear T4 R3 K Bx
      clear Q
      have Q := X
      clear X
      go_wp2_with fail
      generalize hq : w4.heap.size = fb at *
      generalize w4.alloc (.cells #[.int .i64 (-a), .int .i64 (f)] 24) = w5 at *
      have n1 : ¬ w.heap.size = w.heap.size + 1 := by omega
      have n2 : ¬ w.heap.size = pb := by omega
      have n3 : ¬ w.heap.size = fb := by omega
      have n4 : ¬ w.heap.size + 1 = w.heap.size := by omega
      have n5 : ¬ w.heap.size + 1 = pb := by omega
      have n6 : ¬ w.heap.size + 1 = fb := by omega
      have n7 : ¬ pb = w.heap.size := by omega
      have n8 : ¬ pb = w.heap.size + 1 := by omega
      have n9 : ¬ pb = fb := by omega
      have n10 : ¬ fb = w.heap.size := by omega
      have n11 : ¬ fb = w.heap.size + 1 := by omega
      have n12 : ¬ fb = pb := by omega
      have ⟨P0, P1, P2, P3⟩ := P
      have ⟨Q0, Q1, Q2, Q3⟩ := Q
      have ⟨r0, r1, r2, r3⟩ := R
      have ⟨Z0, Z1, Z2, Z3⟩ := Z
      clear P Q R Z
      go_wp2_with fail
      go_region
      all_goals go_wp2
      all_goals refine bodyPost_ret (v := .tuple #[.agg #[.int .i64 (a), .int .i64 (l)], .agg #[.int .i64 (-a), .int .i64 (f)]]) (by simp [results, Tryz.results10, go_sem, *]) rfl ⟨_, _, _, _, p2 + 1, rfl, by omega, by omega, by omega, by omega, by omega, by omega, by omega, by omega, ?_, ?_, ?_⟩
      all_goals first | omega | exact Tch.drew (tchHi (tchHi (tchHi (tchHi T (by omega)) (by omega)) (by omega)) (by omega)) | exact Rd.drew (rdHi (rdHi (rdHi (rdHi R4 (by omega)) (by omega)) (by omega)) (by omega))
  · go_wp2_with fail
    have kP0 : ∀ f (q : Wd k w3 f), q.w.cell? ⟨pb, 0, none⟩ = some (.int .i64 a) := fun f q => (boxTch P q.tc P.lt (by omega)).c0
    refine LQ.region (Cr k w3) (ndV fun i => if i = 3 then some (isNum 129600000) else none) 4 [0, 1, 2, 3] (ndV_local _) (by kernel_rfl) (by kernel_rfl) Cr.mono (Cr.start 4 R3 (by omega)) ?_
    iterate 3 (refine LQ.stepD rfl rfl (fun N hN => ?_); go_simp; apply Exists.intro; refine ⟨fun _ _ _ => ?_, hN _ _ ?_⟩; exact And.intro rfl rfl; clear hN N)
    refine LQ.stepN rfl rfl (fun N hN => ?_)
    go_simp
    refine ⟨fun f q _ => And.intro rfl (pick_loose q 129600000 (by omega)), ?_⟩
    rintro u ⟨x, rfl, x0, x1⟩
    refine hN _ _ ?_
    clear hN N
    refine LQ.lexEnd ?_
    rintro w6 ⟨q, rfl⟩ kn
    clear kn kP0
    obtain ⟨p6, R6, q6⟩ := q.rd
    replace P := boxTch P q.tc P.lt (by omega)
    replace Q := boxTch Q q.tc Q.lt (by omega)
    replace R := boxTch R q.tc R.lt (by omega)
    replace Z := boxTch Z q.tc Z.lt (by omega)
    replace T := T.trans (q.tc.mono T.size)
    have hp6 : p6 + 200 * 0 ≤ 800000000 := q6
    generalize q.w = w6 at *
    clear R3
    simp only [List.drop]
    have ⟨Q0, Q1, Q2, Q3⟩ := Q
    go_wp2_with fail
    clear Q0 Q1 Q2 Q3
    replace Q := Q.set a x
    replace P := P.apart (c := qb) (o := 0) (by omega) (.int .i64 (a))
    replace P := P.apart (c := qb) (o := 1) (by omega) (.int .i64 (x))
    replace R := R.apart (c := qb) (o := 0) (by omega) (.int .i64 (a))
    replace R := R.apart (c := qb) (o := 1) (by omega) (.int .i64 (x))
    replace Z := Z.apart (c := qb) (o := 0) (by omega) (.int .i64 (a))
    replace Z := Z.apart (c := qb) (o := 1) (by omega) (.int .i64 (x))
    replace R6 := rdHi (o := 1) (v := .int .i64 x) (rdHi (o := 0) (v := .int .i64 a) R6 (show k < qb by omega)) (show k < qb by omega)
    replace T := tchHi (o := 1) (v := .int .i64 x) (tchHi (o := 0) (v := .int .i64 a) T (show w.heap.size ≤ qb by omega)) (show w.heap.size ≤ qb by omega)
    generalize (w6.setCell ⟨qb, 0, none⟩ (.int .i64 a)).setCell ⟨qb, 1, none⟩ (.int .i64 x) = w5 at *
    have n1 : ¬ w.heap.size = w.heap.size + 1 := by omega
    have n2 : ¬ w.heap.size = pb := by omega
    have n3 : ¬ w.heap.size = qb := by omega
    have n4 : ¬ w.heap.size + 1 = w.heap.size := by omega
    have n5 : ¬ w.heap.size + 1 = pb := by omega
    have n6 : ¬ w.heap.size + 1 = qb := by omega
    have n7 : ¬ pb = w.heap.size := by omega
    have n8 : ¬ pb = w.heap.size + 1 := by omega
    have n9 : ¬ pb = qb := by omega
    have n10 : ¬ qb = w.heap.size := by omega
    have n11 : ¬ qb = w.heap.size + 1 := by omega
    have n12 : ¬ qb = pb := by omega
    have ⟨P0, P1, P2, P3⟩ := P
    have ⟨Q0, Q1, Q2, Q3⟩ := Q
    have ⟨r0, r1, r2, r3⟩ := R
    have ⟨Z0, Z1, Z2, Z3⟩ := Z
    clear P Q R Z
    go_wp2_with fail
    go_region
    all_goals go_wp2
    all_goals refine bodyPost_ret (v := .tuple #[.agg #[.int .i64 (a), .int .i64 (l)], .agg #[.int .i64 (a), .int .i64 (x)]]) (by simp [results, Tryz.results10, go_sem, *]) rfl ⟨_, _, _, _, p6, rfl, by omega, by omega, by omega, by omega, by omega, by omega, by omega, by omega, ?_, ?_, ?_⟩
    all_goals first | omega | exact Tch.drew (tchHi (tchHi (tchHi (tchHi T (by omega)) (by omega)) (by omega)) (by omega)) | exact Rd.drew (rdHi (rdHi (rdHi (rdHi R6 (by omega)) (by omega)) (by omega)) (by omega))
  · have e0 : (v == 0) = false := by simp; omega
    have e1 : (v == 1) = false := by simp; omega
    have e2 : (v == 2) = false := by simp; omega
    have e3 : (v == 3) = false := by simp; omega
    go_wp2_with fail
    have n1 : ¬ w.heap.size = w.heap.size + 1 := by omega
    have n2 : ¬ w.heap.size = pb := by omega
    have n3 : ¬ w.heap.size = qb := by omega
    have n4 : ¬ w.heap.size + 1 = w.heap.size := by omega
    have n5 : ¬ w.heap.size + 1 = pb := by omega
    have n6 : ¬ w.heap.size + 1 = qb := by omega
    have n7 : ¬ pb = w.heap.size := by omega
    have n8 : ¬ pb = w.heap.size + 1 := by omega
    have n9 : ¬ pb = qb := by omega
    have n10 : ¬ qb = w.heap.size := by omega
    have n11 : ¬ qb = w.heap.size + 1 := by omega
    have n12 : ¬ qb = pb := by omega
    have ⟨P0, P1, P2, P3⟩ := P
    have ⟨Q0, Q1, Q2, Q3⟩ := Q
    have ⟨r0, r1, r2, r3⟩ := R
    have ⟨Z0, Z1, Z2, Z3⟩ := Z
    clear P Q R Z
    go_wp2_with fail
    go_region
    all_goals go_wp2
    all_goals refine bodyPost_ret (v := .tuple #[.agg #[.int .i64 (a), .int .i64 (l)], .agg #[.int .i64 (b), .int .i64 (m)]]) (by simp [results, Tryz.results10, go_sem, *]) rfl ⟨_, _, _, _, p2 + 1, rfl, by omega, by omega, by omega, by omega, by omega, by omega, by omega, by omega, ?_, ?_, ?_⟩
    all_goals first | omega | exact Tch.drew (tchHi (tchHi (tchHi (tchHi T (by omega)) (by omega)) (by omega)) (by omega)) | exact Rd.drew (rdHi (rdHi (rdHi (rdHi R3 (by omega)) (by omega)) (by omega)) (by omega))
end DS
end Go.Proofs.YtfdkpcejjcifgamGreatDoor
namespace Go.Proofs.YtfdkpcejjcifgamGreatDoor
open Go.RowKit Go.Sort
set_option linter.unusedVariables false
namespace DS
open DK DW DF SK
/-- The five parts lie in block 'c', apart from the reader and the answers. -/
structure Five (k y : Nat) (w : World) (c : Nat) : Prop where
  nk : c ≠ k
  ny : c ≠ y
  nz : c ≠ y + 1
  c0 : w.cell? ⟨c, 0, none⟩ = some (.int .i64 100)
  c1 : w.cell? ⟨c, 1, none⟩ = some (.int .i64 6000)
  c2 : w.cell? ⟨c, 2, none⟩ = some (.int .i64 360000)
  c3 : w.cell? ⟨c, 3, none⟩ = some (.int .i64 1)
  c4 : w.cell? ⟨c, 4, none⟩ = some (.int .i64 0)
theorem Five.tch {k y c : Nat} {w w' : World} (h : Five k y w c) (t : Tch k w.heap.size w w') : Five k y w' c := by
  have e : ∀ o, w'.cell? ⟨c, o, none⟩ = w.cell? ⟨c, o, none⟩ := fun o => t.cell (DK.cell_lt h.c0) h.nk
  exact ⟨h.nk, h.ny, h.nz, (e 0).trans h.c0, (e 1).trans h.c1, (e 2).trans h.c2, (e 3).trans h.c3, (e 4).trans h.c4⟩
theorem Five.set {k y c d : Nat} {w : World} (h : Five k y w c) (hd : c ≠ d) (u v : Value) : Five k y ((w.setCell ⟨d, 0, none⟩ u).setCell ⟨d, 1, none⟩ v) c := by
  have e : ∀ o, ((w.setCell ⟨d, 0, none⟩ u).setCell ⟨d, 1, none⟩ v).cell? ⟨c, o, none⟩ = w.cell? ⟨c, o, none⟩ := fun o => by
    rw [World.cell?_setCell_other _ _ _ _ (fun e => hd (congrArg Addr.block e).symm), World.cell?_setCell_other _ _ _ _ (fun e => hd (congrArg Addr.block e).symm)]
  exact ⟨h.nk, h.ny, h.nz, (e 0).trans h.c0, (e 1).trans h.c1, (e 2).trans h.c2, (e 3).trans h.c3, (e 4).trans h.c4⟩
theorem Five.new {k y : Nat} (w : World) (t : TypeId) (hk : k < w.heap.size) (hy : y + 1 < w.heap.size) : Five k y (w.alloc (.cells #[.int .i64 100, .int .i64 6000, .int .i64 360000, .int .i64 1, .int .i64 0] t)) w.heap.size :=
  ⟨by omega, by omega, by omega, by simp [go_sem], by simp [go_sem], by simp [go_sem], by simp [go_sem], by simp [go_sem]⟩
theorem Five.at {z : Int} (h0 : 0 ≤ z) (h1 : z < 5) : ∃ v : Int, 0 ≤ v ∧ v ≤ 360000 ∧ ∀ k y w c, Five k y w c → w.cell? ⟨c, z.toNat, none⟩ = some (.int .i64 v) := by
  rcases (show z = 0 ∨ z = 1 ∨ z = 2 ∨ z = 3 ∨ z = 4 by omega) with rfl | rfl | rfl | rfl | rfl
  · exact ⟨100, by omega, by omega, fun _ _ _ _ h => h.c0⟩
  · exact ⟨6000, by omega, by omega, fun _ _ _ _ h => h.c1⟩
  · exact ⟨360000, by omega, by omega, fun _ _ _ _ h => h.c2⟩
  · exact ⟨1, by omega, by omega, fun _ _ _ _ h => h.c3⟩
  · exact ⟨0, by omega, by omega, fun _ _ _ _ h => h.c4⟩
def isFive (k y : Nat) (u : Value) (w : World) : Prop := ∃ c, u = .slice (some ⟨c, 0, none⟩) 5 5 ∧ Five k y w c
def isWy5 (u : Value) : Prop := ∃ z : Int, u = .int .i64 z ∧ -1 ≤ z ∧ z ≤ 5
def num5 (u : Value) : Prop := ∃ z : Int, u = .int .i64 z ∧ 0 ≤ z ∧ z < 5
structure Wr5 (n0 : Nat) (w0 : World) (k c : Nat) (a l b m : Int) (f : Nat) where
  w : World
  rd : ∃ p, Rd w k p ∧ p + 200 * f ≤ 810000000
  bw : Below n0 w0 w
  p : SK.Box w c a l
  q : SK.Box w (c + 1) b m
  r : ∃ x x', SK.Box w n0 x x'
  y : ∃ x x', SK.Box w (n0 + 1) x x'
abbrev Cr5 (n0 : Nat) (w0 : World) (k c : Nat) (a l b m : Int) : Nat → World → Prop := fun f w' => ∃ q : Wr5 n0 w0 k c a l b m f, w' = q.w
theorem Cr5.mono {n0 : Nat} {w0 : World} {k c : Nat} {a l b m : Int} : ∀ f w, Cr5 n0 w0 k c a l b m (f + 1) w → Cr5 n0 w0 k c a l b m f w := by
  rintro f w ⟨q, rfl⟩
  obtain ⟨p, h1, h2⟩ := q.rd
  exact ⟨⟨q.w, ⟨p, h1, by omega⟩, q.bw, q.p, q.q, q.r, q.y⟩, rfl⟩
theorem Cr5.start {n0 : Nat} {w0 w : World} {k c p : Nat} {a l b m : Int} (n : Nat) (R : Rd w k p) (h : p + 200 * n ≤ 810000000) (B : Below n0 w0 w) (P : SK.Box w c a l) (Q : SK.Box w (c + 1) b m) (X : SK.Box w n0 0 0) (Y : SK.Box w (n0 + 1) 0 0) :
    Cr5 n0 w0 k c a l b m n { w with drawn := w.drawn + 1 } :=
  ⟨⟨w.drew, ⟨p, R.drew, h⟩, B.drew, ⟨P.c0, P.c1, P.f0, P.f1⟩, ⟨Q.c0, Q.c1, Q.f0, Q.f1⟩, ⟨0, 0, ⟨X.c0, X.c1, X.f0, X.f1⟩⟩, ⟨0, 0, ⟨Y.c0, Y.c1, Y.f0, Y.f1⟩⟩⟩, rfl⟩
def ndR5 (k n0 : Nat) (a l b m : Int) : Nat → Option (Act → Value → World → Prop) := fun i =>
  if i = 2 then some (fun _ u w => isFive k n0 u w) else if i = 4 then some (fun _ u _ => num5 u) else if i = 8 then some (fun _ u _ => isWy5 u) else if i = 9 then some (fun _ _ w => SK.Box w n0 a l) else if i = 10 then some (fun _ _ w => SK.Box w (n0 + 1) b m) else none
theorem ndR5_local {ops : Array Oper} (k n0 : Nat) (a l b m : Int) : LQ.Local ops (ndR5 k n0 a l b m) := by
  intro j Φ oj hn _ a dst v _
  unfold ndR5 at hn
  split at hn
  · cases hn; rfl
  · split at hn
    · cases hn; rfl
    · split at hn
      · cases hn; rfl
      · split at hn
        · cases hn; rfl
        · split at hn
          · cases hn; rfl
          · cases hn
theorem ndR5_keeps {k n0 : Nat} {a l b m : Int} {w w' : World} (h : ∀ c, Five k n0 w c → Five k n0 w' c) (g : SK.Box w n0 a l → SK.Box w' n0 a l) (g' : SK.Box w (n0 + 1) b m → SK.Box w' (n0 + 1) b m) : LQ.Keeps (ndR5 k n0 a l b m) w w' := by
  intro i Φ t u hn hu
  unfold ndR5 at hn
  split at hn
  · cases hn
    obtain ⟨c, e, N⟩ := hu
    exact ⟨c, e, h c N⟩
  · split at hn
    · cases hn; exact hu
    · split at hn
      · cases hn; exact hu
      · split at hn
        · cases hn; exact g hu
        · split at hn
          · cases hn; exact g' hu
          · cases hn
/-- A call that turns the reader alone. -/
theorem tch5 {n0 : Nat} {w0 : World} {k c f : Nat} {a l b m : Int} {w1 : World} {p' : Nat} (hc : c ≠ k) (hc1 : c + 1 ≠ k) (hr : n0 ≠ k) (hy : n0 + 1 ≠ k) (hn : n0 ≤ k) (h0 : n0 ≤ w0.heap.size) (q : Wr5 n0 w0 k c a l b m (f + 1)) (R1 : Rd w1 k p') (hp : p' + 200 * f ≤ 810000000) (T1 : Tch k q.w.heap.size q.w w1) : Cr5 n0 w0 k c a l b m f w1 ∧ LQ.Keeps (ndR5 k n0 a l b m) q.w w1 := by
  have mv : ∀ {d : Nat}, d ≠ k → (∃ x x', SK.Box q.w d x x') → ∃ x x', SK.Box w1 d x x' := fun hd ⟨x, x', X⟩ => ⟨x, x', boxTch X T1 X.lt hd⟩
  exact ⟨⟨⟨w1, ⟨_, R1, hp⟩, q.bw.trans (T1.toBelow (Nat.le_trans h0 q.bw.size) hn), boxTch q.p T1 q.p.lt hc, boxTch q.q T1 q.q.lt hc1, mv hr q.r, mv hy q.y⟩, rfl⟩, ndR5_keeps (fun c N => N.tch T1) (fun X => boxTch X T1 X.lt hr) (fun X => boxTch X T1 X.lt hy)⟩
theorem alloc5 {n0 : Nat} {w0 : World} {k c f : Nat} {a l b m : Int} (hn : n0 ≤ w0.heap.size) (q : Wr5 n0 w0 k c a l b m (f + 1)) (t : TypeId) :
    Cr5 n0 w0 k c a l b m f (q.w.alloc (.cells #[.int .i64 100, .int .i64 6000, .int .i64 360000, .int .i64 1, .int .i64 0] t)) ∧ isFive k n0 (.slice (some ⟨q.w.heap.size, 0, none⟩) 5 5) (q.w.alloc (.cells #[.int .i64 100, .int .i64 6000, .int .i64 360000, .int .i64 1, .int .i64 0] t)) ∧ LQ.Keeps (ndR5 k n0 a l b m) q.w (q.w.alloc (.cells #[.int .i64 100, .int .i64 6000, .int .i64 360000, .int .i64 1, .int .i64 0] t)) := by
  obtain ⟨p, R, hp⟩ := q.rd
  obtain ⟨x, x', X⟩ := q.r
  obtain ⟨z, z', Z⟩ := q.y
  have hb : Below q.w.heap.size q.w (q.w.alloc (.cells #[.int .i64 100, .int .i64 6000, .int .i64 360000, .int .i64 1, .int .i64 0] t)) := SK.below_new _ _
  exact ⟨⟨⟨_, ⟨p, R.alloc _, by omega⟩, q.bw.trans (hb.mono (Nat.le_trans hn q.bw.size)), q.p.alloc _, q.q.alloc _, ⟨x, x', X.alloc _⟩, ⟨z, z', Z.alloc _⟩⟩, rfl⟩, ⟨_, rfl, Five.new _ _ R.lt Z.lt⟩, ndR5_keeps (fun c N => N.tch (Tch.ofBelow hb)) (fun X => X.kept hb) (fun X => X.kept hb)⟩
theorem pick5 {n0 : Nat} {w0 : World} {k c f : Nat} {a l b m : Int} (hc : c ≠ k) (hc1 : c + 1 ≠ k) (hr : n0 ≠ k) (hy : n0 + 1 ≠ k) (hn : n0 ≤ k) (h0 : n0 ≤ w0.heap.size) (q : Wr5 n0 w0 k c a l b m (f + 1)) :
    Calls Tryz.prog 11 #[.pointer (some ⟨k, 0, none⟩), .int .i64 5] q.w fun e w'' => ∃ u, e = .returned u ∧ Cr5 n0 w0 k c a l b m f w'' ∧ num5 u ∧ LQ.Keeps (ndR5 k n0 a l b m) q.w w'' := by
  obtain ⟨p, R, hp⟩ := q.rd
  refine (pick_any q.w k p 5 (by omega) R).mono ?_
  rintro e w1 ⟨v, rfl, v0, v1, R1, T1⟩
  have S := tch5 hc hc1 hr hy hn h0 q R1 (by omega) T1
  exact ⟨_, rfl, S.1, ⟨v, rfl, v0, v1 (by omega)⟩, S.2⟩
theorem way5 {n0 : Nat} {w0 : World} {k c f : Nat} {a l b m : Int} (hc : c ≠ k) (hc1 : c + 1 ≠ k) (hr : n0 ≠ k) (hy : n0 + 1 ≠ k) (hn : n0 ≤ k) (h0 : n0 ≤ w0.heap.size) (q : Wr5 n0 w0 k c a l b m (f + 1)) :
    Calls Tryz.prog 12 #[.pointer (some ⟨k, 0, none⟩)] q.w fun e w'' => ∃ u, e = .returned u ∧ Cr5 n0 w0 k c a l b m f w'' ∧ isWy5 u ∧ LQ.Keeps (ndR5 k n0 a l b m) q.w w'' := by
  obtain ⟨p, R, hp⟩ := q.rd
  refine (l71Way_any q.w k p (by omega) R).mono ?_
  rintro e w1 ⟨v, p', rfl, v0, v1, hp', R1, T1⟩
  have S := tch5 hc hc1 hr hy hn h0 q R1 (by omega) T1
  exact ⟨_, rfl, S.1, ⟨v, rfl, v0, v1⟩, S.2⟩
theorem storeR5 {n0 : Nat} {w0 : World} {k c f : Nat} {a l b m : Int} {x x' : Int} (hk : n0 ≠ k) (hc : n0 ≠ c) (hc1 : n0 ≠ c + 1) (q : Wr5 n0 w0 k c a l b m (f + 1)) (X : SK.Box q.w n0 x x') :
    Cr5 n0 w0 k c a l b m f ((q.w.setCell ⟨n0, 0, none⟩ (.int .i64 a)).setCell ⟨n0, 1, none⟩ (.int .i64 l)) ∧ SK.Box ((q.w.setCell ⟨n0, 0, none⟩ (.int .i64 a)).setCell ⟨n0, 1, none⟩ (.int .i64 l)) n0 a l ∧ LQ.Keeps (ndR5 k n0 a l b m) q.w ((q.w.setCell ⟨n0, 0, none⟩ (.int .i64 a)).setCell ⟨n0, 1, none⟩ (.int .i64 l)) := by
  obtain ⟨p, R, hp⟩ := q.rd
  obtain ⟨z, z', Z⟩ := q.y
  have X' := X.set a l
  exact ⟨⟨⟨_, ⟨p, rdBox R X hk a l, by omega⟩, (q.bw.setCell (by simp) _).setCell (by simp) _, (q.p.apart hc _).apart hc _, (q.q.apart hc1 _).apart hc1 _, ⟨a, l, X'⟩, ⟨z, z', (Z.apart (by omega) _).apart (by omega) _⟩⟩, rfl⟩, X', ndR5_keeps (fun c N => N.set N.ny _ _) (fun _ => X') (fun Z => (Z.apart (by omega) _).apart (by omega) _)⟩
theorem storeY5 {n0 : Nat} {w0 : World} {k c f : Nat} {a l b m : Int} {x x' : Int} (hk : n0 + 1 ≠ k) (hc : n0 + 1 ≠ c) (hc1 : n0 + 1 ≠ c + 1) (q : Wr5 n0 w0 k c a l b m (f + 1)) (X : SK.Box q.w (n0 + 1) x x') :
    Cr5 n0 w0 k c a l b m f ((q.w.setCell ⟨n0 + 1, 0, none⟩ (.int .i64 b)).setCell ⟨n0 + 1, 1, none⟩ (.int .i64 m)) ∧ SK.Box ((q.w.setCell ⟨n0 + 1, 0, none⟩ (.int .i64 b)).setCell ⟨n0 + 1, 1, none⟩ (.int .i64 m)) (n0 + 1) b m ∧ LQ.Keeps (ndR5 k n0 a l b m) q.w ((q.w.setCell ⟨n0 + 1, 0, none⟩ (.int .i64 b)).setCell ⟨n0 + 1, 1, none⟩ (.int .i64 m)) := by
  obtain ⟨p, R, hp⟩ := q.rd
  obtain ⟨z, z', Z⟩ := q.r
  have X' := X.set b m
  exact ⟨⟨⟨_, ⟨p, rdBox R X hk b m, by omega⟩, (q.bw.setCell (by simp) _).setCell (by simp) _, (q.p.apart hc _).apart hc _, (q.q.apart hc1 _).apart hc1 _, ⟨z, z', (Z.apart (by omega) _).apart (by omega) _⟩, ⟨b, m, X'⟩⟩, rfl⟩, X', ndR5_keeps (fun c N => N.set N.nz _ _) (fun Z => (Z.apart (by omega) _).apart (by omega) _) (fun _ => X')⟩
set_option maxHeartbeats 4000000 in
theorem drawSpotRound_any (w : World) (a : Option Addr) (len cap : Nat) (h : Src w a len cap) :
    Calls Tryz.prog 4 #[.slice a len cap] w fun e w' => ∃ a l b m pp yy : Int, e = .returned (.tuple #[SK.spV a l, SK.spV b m, .int .i64 pp, .int .i64 yy]) ∧ -32400010 ≤ a ∧ a ≤ 32400010 ∧ -10 ≤ l ∧ l ≤ 129600010 ∧ -32400010 ≤ b ∧ b ≤ 32400010 ∧ -10 ≤ m ∧ m ≤ 129600010 ∧ 0 ≤ pp ∧ pp ≤ 360000 ∧ -1 ≤ yy ∧ yy ≤ 5 ∧ Below w.heap.size w w' := by
  have R := (SK.Box.new w 0 0 24).alloc (.cells #[.int .i64 0, .int .i64 0] 24)
  have Y := SK.Box.new2 w (.cells #[.int .i64 0, .int .i64 0] 24) 0 0 24
  have B0 := SK.below_new2 w (.cells #[.int .i64 0, .int .i64 0] 24) (.cells #[.int .i64 0, .int .i64 0] 24)
  have hk : w.heap.size + 1 + 1 ≤ ((w.alloc (.cells #[.int .i64 0, .int .i64 0] 24)).alloc (.cells #[.int .i64 0, .int .i64 0] 24)).heap.size := by simp
  go_enter Tryz.func4, Tryz.ntmps4
  go_wp2_with fail
  refine (l6Open_any _ _ _ _ (h.kept B0)).mono ?_
  rintro e w1 ⟨rfl, R1, B1⟩
  replace R := R.kept B1
  replace Y := Y.kept B1
  have B := SK.below1 B0 B1
  generalize ((w.alloc (.cells #[.int .i64 0, .int .i64 0] 24)).alloc (.cells #[.int .i64 0, .int .i64 0] 24)).heap.size = k at *
  clear B0 B1 h
  go_wp2_with fail
  refine (l71Spots_any _ k _ (by omega) R1).mono ?_
  rintro e w2 ⟨a, l, b, m, p2, rfl, a0, a1, l0, l1, b0, b1, m0, m1, q2, R2, T2⟩
  replace R := boxTch R T2 R.lt (by omega)
  replace Y := boxTch Y T2 Y.lt (by omega)
  replace B := B.trans (T2.toBelow B.size (by omega))
  have hk2 := R2.lt
  clear T2 R1
  replace R := (R.alloc (.cells #[.int .i64 a, .int .i64 l] 24)).alloc (.cells #[.int .i64 b, .int .i64 m] 24)
  replace Y := (Y.alloc (.cells #[.int .i64 a, .int .i64 l] 24)).alloc (.cells #[.int .i64 b, .int .i64 m] 24)
  have P := (SK.Box.new w2 a l 24).alloc (.cells #[.int .i64 b, .int .i64 m] 24)
  have Q := SK.Box.new2 w2 (.cells #[.int .i64 a, .int .i64 l] 24) b m 24
  replace B := SK.below1 B (SK.below_new2 w2 (.cells #[.int .i64 a, .int .i64 l] 24) (.cells #[.int .i64 b, .int .i64 m] 24))
  replace R2 := (R2.alloc (.cells #[.int .i64 a, .int .i64 l] 24)).alloc (.cells #[.int .i64 b, .int .i64 m] 24)
  go_wp2_with fail
  generalize (w2.alloc (.cells #[.int .i64 a, .int .i64 l] 24)).alloc (.cells #[.int .i64 b, .int .i64 m] 24) = w3 at *
  generalize w2.heap.size = pb at *
  have k0 : ∀ f (q : Wr5 w.heap.size w k pb a l b m f), q.w.cell? ⟨pb, 0, none⟩ = some (.int .i64 a) := fun f q => q.p.c0
  have k1 : ∀ f (q : Wr5 w.heap.size w k pb a l b m f), q.w.cell? ⟨pb, 1, none⟩ = some (.int .i64 l) := fun f q => q.p.c1
  have k2 : ∀ f (q : Wr5 w.heap.size w k pb a l b m f), q.w.cell? ⟨pb + 1, 0, none⟩ = some (.int .i64 b) := fun f q => q.q.c0
  have k3 : ∀ f (q : Wr5 w.heap.size w k pb a l b m f), q.w.cell? ⟨pb + 1, 1, none⟩ = some (.int .i64 m) := fun f q => q.q.c1
  refine LQ.regionT (Cr5 w.heap.size w k pb a l b m) (ndR5 k w.heap.size a l b m) 11 (.det 0 (.det 1 (.det 3 (.det 7 (.two 2 (.one 4 (.det 5 (.det 6 (.one 8 (.one 9 (.one 10 .nil)))))) 4 (.two 2 (.det 5 (.det 6 (.one 8 (.one 9 (.one 10 .nil))))) 8 (.two 2 (.det 5 (.det 6 (.one 9 (.one 10 .nil)))) 9 (.two 2 (.det 5 (.det 6 (.one 10 .nil))) 10 (.one 2 (.det 5 (.det 6 .nil))))))))))) (ndR5_local _ _ _ _ _ _) (by kernel_rfl) (by kernel_rfl) Cr5.mono (Cr5.start 11 R2 (by omega) B P Q R Y) ?_
  iterate 4 (refine LQ.stepDT rfl rfl (fun N hN => ?_); go_simp; apply Exists.intro; refine ⟨fun _ _ _ => ?_, hN _ _ ?_⟩; exact And.intro rfl rfl; clear hN N)
  refine LQ.stepTwo ?_ ?_
  · refine LQ.opN rfl rfl (fun N hN => ?_)
    go_simp
    refine ⟨fun f q _ => alloc5 (Nat.le_refl _) q _, ?_⟩
    rintro u wn ⟨cn, rfl, Nn⟩
    refine hN _ _ ?_
    clear hN N Nn wn
    refine LQ.stepOne ?_
    refine LQ.opN rfl rfl (fun N hN => ?_)
    go_simp
    refine ⟨fun f q _ => And.intro rfl (pick5 (by omega) (by omega) (by omega) (by omega) (by omega) (Nat.le_refl _) q), ?_⟩
    rintro u ⟨z, rfl, z0, z1⟩
    refine hN _ _ ?_
    clear hN N
    obtain ⟨pv, pv0, pv1, hpv⟩ := Five.at z0 z1
    iterate 1 (refine LQ.stepDT rfl rfl (fun N hN => ?_); go_simp; apply Exists.intro; refine ⟨fun _ _ _ => ?_, hN _ _ ?_⟩; exact And.intro rfl rfl; clear hN N)
    refine LQ.stepDT rfl rfl (fun N hN => ?_)
    go_simp
    refine ⟨.int .i64 pv, fun f q hk => ?_, hN _ _ ?_⟩
    · obtain ⟨cx, ex, Nx⟩ := (hk _ (List.mem_cons_of_mem _ (List.mem_cons_self ..))).2
      cases ex
      have hc := hpv _ _ _ _ Nx
      clear hk Nx
      go_simp
      exact ⟨rfl, rfl⟩
    clear hN N
    refine LQ.stepOne ?_
    refine LQ.opN rfl rfl (fun N hN => ?_)
    go_simp
    refine ⟨fun f q _ => And.intro rfl (way5 (by omega) (by omega) (by omega) (by omega) (by omega) (Nat.le_refl _) q), ?_⟩
    rintro u ⟨yw, rfl, yw0, yw1⟩
    refine hN _ _ ?_
    clear hN N
    refine LQ.stepOne ?_
    refine LQ.opN rfl rfl (fun N hN => ?_)
    go_simp
    refine ⟨fun f q _ => ?_, fun _ _ => hN _ _ ?_⟩
    · obtain ⟨x, x', X⟩ := q.r
      have X' := X
      obtain ⟨g0, g1, g2, g3⟩ := X'
      go_simp
      exact storeR5 (by omega) (by omega) (by omega) q X
    clear hN N
    refine LQ.stepOne ?_
    refine LQ.opN rfl rfl (fun N hN => ?_)
    go_simp
    refine ⟨fun f q _ => ?_, fun _ _ => hN _ _ ?_⟩
    · obtain ⟨x, x', X⟩ := q.y
      have X' := X
      obtain ⟨g0, g1, g2, g3⟩ := X'
      go_simp
      exact storeY5 (by omega) (by omega) (by omega) q X
    clear hN N
    refine LQ.lexEndT ?_
    rintro w7 ⟨q, rfl⟩ kn
    have X : SK.Box q.w w.heap.size a l := (kn _ (List.mem_cons_of_mem _ (List.mem_cons_self ..))).2
    have X' : SK.Box q.w (w.heap.size + 1) b m := (kn _ (List.mem_cons_self ..)).2
    clear kn hpv k0 k1 k2 k3
    have B7 := q.bw
    generalize q.w = w7 at *
    obtain ⟨c0, c1, c2, c3⟩ := X
    obtain ⟨d0, d1, d2, d3⟩ := X'
    simp only [List.drop]
    go_wp2
    refine bodyPost_ret (v := .tuple #[.agg #[.int .i64 a, .int .i64 l], .agg #[.int .i64 b, .int .i64 m], .int .i64 pv, .int .i64 yw]) (by simp [results, Tryz.results4, go_sem, *]) rfl ⟨_, _, _, _, _, _, rfl, a0, a1, l0, l1, b0, b1, m0, m1, by omega, by omega, by omega, by omega, ?_⟩
    exact B7
  · refine LQ.opN rfl rfl (fun N hN => ?_)
    go_simp
    refine ⟨fun f q _ => And.intro rfl (pick5 (by omega) (by omega) (by omega) (by omega) (by omega) (Nat.le_refl _) q), ?_⟩
    rintro u ⟨z, rfl, z0, z1⟩
    refine hN _ _ ?_
    clear hN N
    obtain ⟨pv, pv0, pv1, hpv⟩ := Five.at z0 z1
    refine LQ.stepTwo ?_ ?_
    · refine LQ.opN rfl rfl (fun N hN => ?_)
      go_simp
      refine ⟨fun f q _ => alloc5 (Nat.le_refl _) q _, ?_⟩
      rintro u wn ⟨cn, rfl, Nn⟩
      refine hN _ _ ?_
      clear hN N Nn wn
      iterate 1 (refine LQ.stepDT rfl rfl (fun N hN => ?_); go_simp; apply Exists.intro; refine ⟨fun _ _ _ => ?_, hN _ _ ?_⟩; exact And.intro rfl rfl; clear hN N)
      refine LQ.stepDT rfl rfl (fun N hN => ?_)
      go_simp
      refine ⟨.int .i64 pv, fun f q hk => ?_, hN _ _ ?_⟩
      · obtain ⟨cx, ex, Nx⟩ := (hk _ (List.mem_cons_self ..)).2
        cases ex
        have hc := hpv _ _ _ _ Nx
        clear hk Nx
        go_simp
        exact ⟨rfl, rfl⟩
      clear hN N
      refine LQ.stepOne ?_
      refine LQ.opN rfl rfl (fun N hN => ?_)
      go_simp
      refine ⟨fun f q _ => And.intro rfl (way5 (by omega) (by omega) (by omega) (by omega) (by omega) (Nat.le_refl _) q), ?_⟩
      rintro u ⟨yw, rfl, yw0, yw1⟩
      refine hN _ _ ?_
      clear hN N
      refine LQ.stepOne ?_
      refine LQ.opN rfl rfl (fun N hN => ?_)
      go_simp
      refine ⟨fun f q _ => ?_, fun _ _ => hN _ _ ?_⟩
      · obtain ⟨x, x', X⟩ := q.r
        have X' := X
        obtain ⟨g0, g1, g2, g3⟩ := X'
        go_simp
        exact storeR5 (by omega) (by omega) (by omega) q X
      clear hN N
      refine LQ.stepOne ?_
      refine LQ.opN rfl rfl (fun N hN => ?_)
      go_simp
      refine ⟨fun f q _ => ?_, fun _ _ => hN _ _ ?_⟩
      · obtain ⟨x, x', X⟩ := q.y
        have X' := X
        obtain ⟨g0, g1, g2, g3⟩ := X'
        go_simp
        exact storeY5 (by omega) (by omega) (by omega) q X
      clear hN N
      refine LQ.lexEndT ?_
      rintro w7 ⟨q, rfl⟩ kn
      have X : SK.Box q.w w.heap.size a l := (kn _ (List.mem_cons_of_mem _ (List.mem_cons_self ..))).2
      have X' : SK.Box q.w (w.heap.size + 1) b m := (kn _ (List.mem_cons_self ..)).2
      clear kn hpv k0 k1 k2 k3
      have B7 := q.bw
      generalize q.w = w7 at *
      obtain ⟨c0, c1, c2, c3⟩ := X
      obtain ⟨d0, d1, d2, d3⟩ := X'
      simp only [List.drop]
      go_wp2
      refine bodyPost_ret (v := .tuple #[.agg #[.int .i64 a, .int .i64 l], .agg #[.int .i64 b, .int .i64 m], .int .i64 pv, .int .i64 yw]) (by simp [results, Tryz.results4, go_sem, *]) rfl ⟨_, _, _, _, _, _, rfl, a0, a1, l0, l1, b0, b1, m0, m1, by omega, by omega, by omega, by omega, ?_⟩
      exact B7
    · refine LQ.opN rfl rfl (fun N hN => ?_)
      go_simp
      refine ⟨fun f q _ => And.intro rfl (way5 (by omega) (by omega) (by omega) (by omega) (by omega) (Nat.le_refl _) q), ?_⟩
      rintro u ⟨yw, rfl, yw0, yw1⟩
      refine hN _ _ ?_
      clear hN N
      refine LQ.stepTwo ?_ ?_
      · refine LQ.opN rfl rfl (fun N hN => ?_)
        go_simp
        refine ⟨fun f q _ => alloc5 (Nat.le_refl _) q _, ?_⟩
        rintro u wn ⟨cn, rfl, Nn⟩
        refine hN _ _ ?_
        clear hN N Nn wn
        iterate 1 (refine LQ.stepDT rfl rfl (fun N hN => ?_); go_simp; apply Exists.intro; refine ⟨fun _ _ _ => ?_, hN _ _ ?_⟩; exact And.intro rfl rfl; clear hN N)
        refine LQ.stepDT rfl rfl (fun N hN => ?_)
        go_simp
        refine ⟨.int .i64 pv, fun f q hk => ?_, hN _ _ ?_⟩
        · obtain ⟨cx, ex, Nx⟩ := (hk _ (List.mem_cons_self ..)).2
          cases ex
          have hc := hpv _ _ _ _ Nx
          clear hk Nx
          go_simp
          exact ⟨rfl, rfl⟩
        clear hN N
        refine LQ.stepOne ?_
        refine LQ.opN rfl rfl (fun N hN => ?_)
        go_simp
        refine ⟨fun f q _ => ?_, fun _ _ => hN _ _ ?_⟩
        · obtain ⟨x, x', X⟩ := q.r
          have X' := X
          obtain ⟨g0, g1, g2, g3⟩ := X'
          go_simp
          exact storeR5 (by omega) (by omega) (by omega) q X
        clear hN N
        refine LQ.stepOne ?_
        refine LQ.opN rfl rfl (fun N hN => ?_)
        go_simp
        refine ⟨fun f q _ => ?_, fun _ _ => hN _ _ ?_⟩
        · obtain ⟨x, x', X⟩ := q.y
          have X' := X
          obtain ⟨g0, g1, g2, g3⟩ := X'
          go_simp
          exact storeY5 (by omega) (by omega) (by omega) q X
        clear hN N
        refine LQ.lexEndT ?_
        rintro w7 ⟨q, rfl⟩ kn
        have X : SK.Box q.w w.heap.size a l := (kn _ (List.mem_cons_of_mem _ (List.mem_cons_self ..))).2
        have X' : SK.Box q.w (w.heap.size + 1) b m := (kn _ (List.mem_cons_self ..)).2
        clear kn hpv k0 k1 k2 k3
        have B7 := q.bw
        generalize q.w = w7 at *
        obtain ⟨c0, c1, c2, c3⟩ := X
        obtain ⟨d0, d1, d2, d3⟩ := X'
        simp only [List.drop]
        go_wp2
        refine bodyPost_ret (v := .tuple #[.agg #[.int .i64 a, .int .i64 l], .agg #[.int .i64 b, .int .i64 m], .int .i64 pv, .int .i64 yw]) (by simp [results, Tryz.results4, go_sem, *]) rfl ⟨_, _, _, _, _, _, rfl, a0, a1, l0, l1, b0, b1, m0, m1, by omega, by omega, by omega, by omega, ?_⟩
        exact B7
      · refine LQ.opN rfl rfl (fun N hN => ?_)
        go_simp
        refine ⟨fun f q _ => ?_, fun _ _ => hN _ _ ?_⟩
        · obtain ⟨x, x', X⟩ := q.r
          have X' := X
          obtain ⟨g0, g1, g2, g3⟩ := X'
          go_simp
          exact storeR5 (by omega) (by omega) (by omega) q X
        clear hN N
        refine LQ.stepTwo ?_ ?_
        · refine LQ.opN rfl rfl (fun N hN => ?_)
          go_simp
          refine ⟨fun f q _ => alloc5 (Nat.le_refl _) q _, ?_⟩
          rintro u wn ⟨cn, rfl, Nn⟩
          refine hN _ _ ?_
          clear hN N Nn wn
          iterate 1 (refine LQ.stepDT rfl rfl (fun N hN => ?_); go_simp; apply Exists.intro; refine ⟨fun _ _ _ => ?_, hN _ _ ?_⟩; exact And.intro rfl rfl; clear hN N)
          refine LQ.stepDT rfl rfl (fun N hN => ?_)
          go_simp
          refine ⟨.int .i64 pv, fun f q hk => ?_, hN _ _ ?_⟩
          · obtain ⟨cx, ex, Nx⟩ := (hk _ (List.mem_cons_self ..)).2
            cases ex
            have hc := hpv _ _ _ _ Nx
            clear hk Nx
            go_simp
            exact ⟨rfl, rfl⟩
          clear hN N
          refine LQ.stepOne ?_
          refine LQ.opN rfl rfl (fun N hN => ?_)
          go_simp
          refine ⟨fun f q _ => ?_, fun _ _ => hN _ _ ?_⟩
          · obtain ⟨x, x', X⟩ := q.y
            have X' := X
            obtain ⟨g0, g1, g2, g3⟩ := X'
            go_simp
            exact storeY5 (by omega) (by omega) (by omega) q X
          clear hN N
          refine LQ.lexEndT ?_
          rintro w7 ⟨q, rfl⟩ kn
          have X : SK.Box q.w w.heap.size a l := (kn _ (List.mem_cons_of_mem _ (List.mem_cons_of_mem _ (List.mem_cons_self ..)))).2
          have X' : SK.Box q.w (w.heap.size + 1) b m := (kn _ (List.mem_cons_self ..)).2
          clear kn hpv k0 k1 k2 k3
          have B7 := q.bw
          generalize q.w = w7 at *
          obtain ⟨c0, c1, c2, c3⟩ := X
          obtain ⟨d0, d1, d2, d3⟩ := X'
          simp only [List.drop]
          go_wp2
          refine bodyPost_ret (v := .tuple #[.agg #[.int .i64 a, .int .i64 l], .agg #[.int .i64 b, .int .i64 m], .int .i64 pv, .int .i64 yw]) (by simp [results, Tryz.results4, go_sem, *]) rfl ⟨_, _, _, _, _, _, rfl, a0, a1, l0, l1, b0, b1, m0, m1, by omega, by omega, by omega, by omega, ?_⟩
          exact B7
        · refine LQ.opN rfl rfl (fun N hN => ?_)
          go_simp
          refine ⟨fun f q _ => ?_, fun _ _ => hN _ _ ?_⟩
          · obtain ⟨x, x', X⟩ := q.y
            have X' := X
            obtain ⟨g0, g1, g2, g3⟩ := X'
            go_simp
            exact storeY5 (by omega) (by omega) (by omega) q X
          clear hN N
          refine LQ.stepOne ?_
          refine LQ.opN rfl rfl (fun N hN => ?_)
          go_simp
          refine ⟨fun f q _ => alloc5 (Nat.le_refl _) q _, ?_⟩
          rintro u wn ⟨cn, rfl, Nn⟩
          refine hN _ _ ?_
          clear hN N Nn wn
          iterate 1 (refine LQ.stepDT rfl rfl (fun N hN => ?_); go_simp; apply Exists.intro; refine ⟨fun _ _ _ => ?_, hN _ _ ?_⟩; exact And.intro rfl rfl; clear hN N)
          refine LQ.stepDT rfl rfl (fun N hN => ?_)
          go_simp
          refine ⟨.int .i64 pv, fun f q hk => ?_, hN _ _ ?_⟩
          · obtain ⟨cx, ex, Nx⟩ := (hk _ (List.mem_cons_self ..)).2
            cases ex
            have hc := hpv _ _ _ _ Nx
            clear hk Nx
            go_simp
            exact ⟨rfl, rfl⟩
          clear hN N
          refine LQ.lexEndT ?_
          rintro w7 ⟨q, rfl⟩ kn
          have X : SK.Box q.w w.heap.size a l := (kn _ (List.mem_cons_of_mem _ (List.mem_cons_of_mem _ (List.mem_cons_self ..)))).2
          have X' : SK.Box q.w (w.heap.size + 1) b m := (kn _ (List.mem_cons_of_mem _ (List.mem_cons_self ..))).2
          clear kn hpv k0 k1 k2 k3
          have B7 := q.bw
          generalize q.w = w7 at *
          obtain ⟨c0, c1, c2, c3⟩ := X
          obtain ⟨d0, d1, d2, d3⟩ := X'
          simp only [List.drop]
          go_wp2
          refine bodyPost_ret (v := .tuple #[.agg #[.int .i64 a, .int .i64 l], .agg #[.int .i64 b, .int .i64 m], .int .i64 pv, .int .i64 yw]) (by simp [results, Tryz.results4, go_sem, *]) rfl ⟨_, _, _, _, _, _, rfl, a0, a1, l0, l1, b0, b1, m0, m1, by omega, by omega, by omega, by omega, ?_⟩
          exact B7
end DS
end Go.Proofs.YtfdkpcejjcifgamGreatDoor
