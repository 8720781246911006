/-
  The draws of places: a place, two places.
-/
import Derived.Test.YtfdkpcejjcifgamDoorDrawFan
import Derived.Test.YtfdkpcejjcifgamDoorSpotWalks
namespace Go.Proofs.YtfdkpcejjcifgamDoor
open Go.RowKit Go.Sort
set_option linter.unusedVariables false
namespace DS
open DK DW DF SK
set_option maxHeartbeats 4000000 in
theorem l71Spot_any (w : World) (k p : Nat) (hp : p ≤ 850000000) (h : Rd w k p) :
    Calls Tryd.prog 30 #[.pointer (some ⟨k, 0, none⟩)] w fun e w' => ∃ a l : Int, ∃ p' : Nat, e = .returned (SK.spV a l) ∧ -32400010 ≤ a ∧ a ≤ 32400010 ∧ -10 ≤ l ∧ l ≤ 129600010 ∧ p' ≤ p + 40 ∧ Rd w' k p' ∧ Tch k w.heap.size w w' := by
  have hk := h.lt
  have R := SK.Box.new w 0 0 24
  have T := (Tch.refl k w.heap.size w).alloc (Nat.le_refl _) (.cells #[.int .i64 0, .int .i64 0] 24)
  go_enter Tryd.func30, Tryd.ntmps30
  go_wp2_with fail
  refine (l71Big_any _ k p _ (by omega) (h.alloc _) (by omega) (by omega)).mono ?_
  rintro e w1 ⟨u, p1, rfl, u0, u1, q1, R1, T1⟩
  replace R := boxTch R T1 R.lt (by omega)
  replace T := T.trans (T1.mono T.size)
  clear h T1
  go_wp2_with fail
  refine (l71Big_any _ k p1 _ (by omega) R1 (by omega) (by omega)).mono ?_
  rintro e w2 ⟨x, p2, rfl, x0, x1, q2, R2, T2⟩
  replace R := boxTch R T2 R.lt (by omega)
  have hR := R.lt
  replace T := T.trans (T2.mono T.size)
  have hs := T.size
  clear T2 R1
  have P := SK.Box.new w2 u (max x 0) 24
  replace R := R.alloc (.cells #[.int .i64 u, .int .i64 (max x 0)] 24)
  replace T := T.alloc hs (.cells #[.int .i64 u, .int .i64 (max x 0)] 24)
  replace R2 := R2.alloc (.cells #[.int .i64 u, .int .i64 (max x 0)] 24)
  have hk2 : k < w2.heap.size := by omega
  go_wp2_with fail
  refine (pick_any _ k _ _ (by omega) R2).mono ?_
  rintro e w4 ⟨v, rfl, v0, v1, R4, T4⟩
  replace v1 := v1 (by omega)
  replace R := boxTch R T4 R.lt (by omega)
  replace P := boxTch P T4 P.lt (by omega)
  replace T := T.trans (T4.mono T.size)
  clear T4 R2
  generalize w2.heap.size = pb at *
  have hP := P.lt
  rcases (show v = 0 ∨ v = 1 ∨ v = 2 ∨ v = 3 ∨ (v = 4 ∨ v = 5 ∨ v = 6) ∨ 7 ≤ v by omega) with rfl | rfl | rfl | rfl | v2 | v2
  · go_wp2_with fail
    refine (pick_any _ k _ _ (by omega) (R4.alloc _)).mono ?_
    rintro e w5 ⟨z, rfl, z0, z1, R5, T5⟩
    replace z1 := z1 (by omega)
    replace P := boxTch (P.alloc (.cells #[.int .i64 32400000, .int .i64 (-32400000)] 3)) T5 (P.alloc (.cells #[.int .i64 32400000, .int .i64 (-32400000)] 3)).lt (by omega)
    replace R := boxTch (R.alloc (.cells #[.int .i64 32400000, .int .i64 (-32400000)] 3)) T5 (R.alloc (.cells #[.int .i64 32400000, .int .i64 (-32400000)] 3)).lt (by omega)
    replace T := (T.alloc T.size (.cells #[.int .i64 32400000, .int .i64 (-32400000)] 3)).trans (T5.mono (by have := T.size; simp; omega))
    have hb4 : k < w4.heap.size := R4.lt
    rcases (show z = 0 ∨ z = 1 by omega) with rfl | rfl
    · have hc : w5.cell? ⟨w4.heap.size, 0, none⟩ = some (.int .i64 (32400000)) := by rw [T5.cell (by simp) (by omega)]; simp [go_sem]
      clear T5 R4
      have ⟨R0, R1, R2, R3⟩ := R.apart (c := pb) (o := 0) (by omega) (.int .i64 (32400000))
      have ⟨P0, P1, P2, P3⟩ := P
      clear P R
      go_wp2
      refine bodyPost_ret (v := .agg #[.int .i64 (32400000), .int .i64 (max x 0)]) (by simp [results, Tryd.results30, go_sem, *]) rfl ⟨_, _, _, rfl, by omega, by omega, by omega, by omega, by omega, rdHi (rdHi (rdHi R5 (by omega)) (by omega)) (by omega), tchHi (tchHi (tchHi T (by omega)) (by omega)) (by omega)⟩
    · have hc : w5.cell? ⟨w4.heap.size, 1, none⟩ = some (.int .i64 (-32400000)) := by rw [T5.cell (by simp) (by omega)]; simp [go_sem]
      clear T5 R4
      have ⟨R0, R1, R2, R3⟩ := R.apart (c := pb) (o := 0) (by omega) (.int .i64 (-32400000))
      have ⟨P0, P1, P2, P3⟩ := P
      clear P R
      go_wp2
      refine bodyPost_ret (v := .agg #[.int .i64 (-32400000), .int .i64 (max x 0)]) (by simp [results, Tryd.results30, go_sem, *]) rfl ⟨_, _, _, rfl, by omega, by omega, by omega, by omega, by omega, rdHi (rdHi (rdHi R5 (by omega)) (by omega)) (by omega), tchHi (tchHi (tchHi T (by omega)) (by omega)) (by omega)⟩
  · have ⟨R0, R1, R2, R3⟩ := R.apart (c := pb) (o := 0) (by omega) (.int .i64 (0))
    have ⟨P0, P1, P2, P3⟩ := P
    clear P R
    go_wp2
    refine bodyPost_ret (v := .agg #[.int .i64 (0), .int .i64 (max x 0)]) (by simp [results, Tryd.results30, go_sem, *]) rfl ⟨_, _, _, rfl, by omega, by omega, by omega, by omega, by omega, rdHi (rdHi (rdHi R4 (by omega)) (by omega)) (by omega), tchHi (tchHi (tchHi T (by omega)) (by omega)) (by omega)⟩
  · go_wp2_with fail
    refine (pick_any _ k _ _ (by omega) (R4.alloc _)).mono ?_
    rintro e w5 ⟨z, rfl, z0, z1, R5, T5⟩
    replace z1 := z1 (by omega)
    replace P := boxTch (P.alloc (.cells #[.int .i64 32400001, .int .i64 (-32400001)] 3)) T5 (P.alloc (.cells #[.int .i64 32400001, .int .i64 (-32400001)] 3)).lt (by omega)
    replace R := boxTch (R.alloc (.cells #[.int .i64 32400001, .int .i64 (-32400001)] 3)) T5 (R.alloc (.cells #[.int .i64 32400001, .int .i64 (-32400001)] 3)).lt (by omega)
    replace T := (T.alloc T.size (.cells #[.int .i64 32400001, .int .i64 (-32400001)] 3)).trans (T5.mono (by have := T.size; simp; omega))
    have hb4 : k < w4.heap.size := R4.lt
    rcases (show z = 0 ∨ z = 1 by omega) with rfl | rfl
    · have hc : w5.cell? ⟨w4.heap.size, 0, none⟩ = some (.int .i64 (32400001)) := by rw [T5.cell (by simp) (by omega)]; simp [go_sem]
      clear T5 R4
      have ⟨R0, R1, R2, R3⟩ := R.apart (c := pb) (o := 0) (by omega) (.int .i64 (32400001))
      have ⟨P0, P1, P2, P3⟩ := P
      clear P R
      go_wp2
      refine bodyPost_ret (v := .agg #[.int .i64 (32400001), .int .i64 (max x 0)]) (by simp [results, Tryd.results30, go_sem, *]) rfl ⟨_, _, _, rfl, by omega, by omega, by omega, by omega, by omega, rdHi (rdHi (rdHi R5 (by omega)) (by omega)) (by omega), tchHi (tchHi (tchHi T (by omega)) (by omega)) (by omega)⟩
    · have hc : w5.cell? ⟨w4.heap.size, 1, none⟩ = some (.int .i64 (-32400001)) := by rw [T5.cell (by simp) (by omega)]; simp [go_sem]
      clear T5 R4
      have ⟨R0, R1, R2, R3⟩ := R.apart (c := pb) (o := 0) (by omega) (.int .i64 (-32400001))
      have ⟨P0, P1, P2, P3⟩ := P
      clear P R
      go_wp2
      refine bodyPost_ret (v := .agg #[.int .i64 (-32400001), .int .i64 (max x 0)]) (by simp [results, Tryd.results30, go_sem, *]) rfl ⟨_, _, _, rfl, by omega, by omega, by omega, by omega, by omega, rdHi (rdHi (rdHi R5 (by omega)) (by omega)) (by omega), tchHi (tchHi (tchHi T (by omega)) (by omega)) (by omega)⟩
  · go_wp2_with fail
    refine (pick_any _ k _ _ (by omega) (R4.alloc _)).mono ?_
    rintro e w5 ⟨z, rfl, z0, z1, R5, T5⟩
    replace z1 := z1 (by omega)
    replace P := boxTch (P.alloc (.cells #[.int .i64 (-1), .int .i64 129600000] 3)) T5 (P.alloc (.cells #[.int .i64 (-1), .int .i64 129600000] 3)).lt (by omega)
    replace R := boxTch (R.alloc (.cells #[.int .i64 (-1), .int .i64 129600000] 3)) T5 (R.alloc (.cells #[.int .i64 (-1), .int .i64 129600000] 3)).lt (by omega)
    replace T := (T.alloc T.size (.cells #[.int .i64 (-1), .int .i64 129600000] 3)).trans (T5.mono (by have := T.size; simp; omega))
    have hb4 : k < w4.heap.size := R4.lt
    rcases (show z = 0 ∨ z = 1 by omega) with rfl | rfl
    · have hc : w5.cell? ⟨w4.heap.size, 0, none⟩ = some (.int .i64 (-1)) := by rw [T5.cell (by simp) (by omega)]; simp [go_sem]
      clear T5 R4
      have ⟨R0, R1, R2, R3⟩ := R.apart (c := pb) (o := 1) (by omega) (.int .i64 (-1))
      have ⟨P0, P1, P2, P3⟩ := P
      clear P R
      go_wp2
      refine bodyPost_ret (v := .agg #[.int .i64 (u), .int .i64 (-1)]) (by simp [results, Tryd.results30, go_sem, *]) rfl ⟨_, _, _, rfl, by omega, by omega, by omega, by omega, by omega, rdHi (rdHi (rdHi R5 (by omega)) (by omega)) (by omega), tchHi (tchHi (tchHi T (by omega)) (by omega)) (by omega)⟩
    · have hc : w5.cell? ⟨w4.heap.size, 1, none⟩ = some (.int .i64 (129600000)) := by rw [T5.cell (by simp) (by omega)]; simp [go_sem]
      clear T5 R4
      have ⟨R0, R1, R2, R3⟩ := R.apart (c := pb) (o := 1) (by omega) (.int .i64 (129600000))
      have ⟨P0, P1, P2, P3⟩ := P
      clear P R
      go_wp2
      refine bodyPost_ret (v := .agg #[.int .i64 (u), .int .i64 (129600000)]) (by simp [results, Tryd.results30, go_sem, *]) rfl ⟨_, _, _, rfl, by omega, by omega, by omega, by omega, by omega, rdHi (rdHi (rdHi R5 (by omega)) (by omega)) (by omega), tchHi (tchHi (tchHi T (by omega)) (by omega)) (by omega)⟩
  · rcases v2 with rfl | rfl | rfl
    · go_wp2_with fail
      refine (pick_any _ k _ _ (by omega) R4).mono ?_
      rintro e w5 ⟨z, rfl, z0, z1, R5, T5⟩
      replace z1 := z1 (by omega)
      replace P := boxTch P T5 P.lt (by omega)
      replace R := boxTch R T5 R.lt (by omega)
      replace T := T.trans (T5.mono T.size)
      clear T5 R4
      have ⟨R0, R1, R2, R3⟩ := R.apart (c := pb) (o := 1) (by omega) (.int .i64 (z * 32400000))
      have ⟨P0, P1, P2, P3⟩ := P
      clear P R
      go_wp2
      refine bodyPost_ret (v := .agg #[.int .i64 (u), .int .i64 (z * 32400000)]) (by simp [results, Tryd.results30, go_sem, *]) rfl ⟨_, _, _, rfl, by omega, by omega, by omega, by omega, by omega, rdHi (rdHi (rdHi R5 (by omega)) (by omega)) (by omega), tchHi (tchHi (tchHi T (by omega)) (by omega)) (by omega)⟩
    · go_wp2_with fail
      refine (pick_any _ k _ _ (by omega) R4).mono ?_
      rintro e w5 ⟨z, rfl, z0, z1, R5, T5⟩
      replace z1 := z1 (by omega)
      replace P := boxTch P T5 P.lt (by omega)
      replace R := boxTch R T5 R.lt (by omega)
      replace T := T.trans (T5.mono T.size)
      clear T5 R4
      have ⟨R0, R1, R2, R3⟩ := R.apart (c := pb) (o := 1) (by omega) (.int .i64 (z * 32400000))
      have ⟨P0, P1, P2, P3⟩ := P
      clear P R
      go_wp2
      refine bodyPost_ret (v := .agg #[.int .i64 (u), .int .i64 (z * 32400000)]) (by simp [results, Tryd.results30, go_sem, *]) rfl ⟨_, _, _, rfl, by omega, by omega, by omega, by omega, by omega, rdHi (rdHi (rdHi R5 (by omega)) (by omega)) (by omega), tchHi (tchHi (tchHi T (by omega)) (by omega)) (by omega)⟩
    · go_wp2_with fail
      refine (pick_any _ k _ _ (by omega) R4).mono ?_
      rintro e w5 ⟨z, rfl, z0, z1, R5, T5⟩
      replace z1 := z1 (by omega)
      replace P := boxTch P T5 P.lt (by omega)
      replace R := boxTch R T5 R.lt (by omega)
      replace T := T.trans (T5.mono T.size)
      clear T5 R4
      have ⟨R0, R1, R2, R3⟩ := R.apart (c := pb) (o := 1) (by omega) (.int .i64 (z * 32400000))
      have ⟨P0, P1, P2, P3⟩ := P
      clear P R
      go_wp2
      refine bodyPost_ret (v := .agg #[.int .i64 (u), .int .i64 (z * 32400000)]) (by simp [results, Tryd.results30, go_sem, *]) rfl ⟨_, _, _, rfl, by omega, by omega, by omega, by omega, by omega, rdHi (rdHi (rdHi R5 (by omega)) (by omega)) (by omega), tchHi (tchHi (tchHi T (by omega)) (by omega)) (by omega)⟩
  · have e0 : (v == 0) = false := by simp; omega
    have e1 : (v == 1) = false := by simp; omega
    have e2 : (v == 2) = false := by simp; omega
    have e3 : (v == 3) = false := by simp; omega
    have e4 : (v == 4) = false := by simp; omega
    have e5 : (v == 5) = false := by simp; omega
    have e6 : (v == 6) = false := by simp; omega
    have ⟨P0, P1, P2, P3⟩ := P
    have ⟨R0, R1, R2, R3⟩ := R
    clear P R
    go_wp2
    refine bodyPost_ret (v := .agg #[.int .i64 (u), .int .i64 (max x 0)]) (by simp [results, Tryd.results30, go_sem, *]) rfl ⟨_, _, _, rfl, by omega, by omega, by omega, by omega, by omega, rdHi (rdHi R4 (by omega)) (by omega), tchHi (tchHi T (by omega)) (by omega)⟩
end DS
end Go.Proofs.YtfdkpcejjcifgamDoor
