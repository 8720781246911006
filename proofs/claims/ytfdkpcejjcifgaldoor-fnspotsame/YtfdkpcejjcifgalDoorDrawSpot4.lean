/-
  The draws of the laws of places: three places.
-/
import Derived.Test.YtfdkpcejjcifgalDoorDrawFan
import Derived.Test.YtfdkpcejjcifgalDoorDrawSpot2
import Derived.Test.YtfdkpcejjcifgalDoorLoose4
import Derived.RegionTactic
namespace Go.Proofs.YtfdkpcejjcifgalDoor
open Go.RowKit Go.Sort
set_option linter.unusedVariables false
namespace DS
open DK DW DF SK
set_option maxHeartbeats 4000000 in
theorem drawSpotSame_any (w : World) (a : Option Addr) (len cap : Nat) (h : Src w a len cap) :
    Calls Tryd.prog 10 #[.slice a len cap] w fun e w' => ∃ a l b m : Int, e = .returned (.tuple #[SK.spV a l, SK.spV b m]) ∧ -32400010 ≤ a ∧ a ≤ 32400010 ∧ -10 ≤ l ∧ l ≤ 129600010 ∧ -32400010 ≤ b ∧ b ≤ 32400010 ∧ -10 ≤ m ∧ m ≤ 129600010 ∧ Below w.heap.size w w' := by
  have R := (SK.Box.new w 0 0 32).alloc (.cells #[.int .i64 0, .int .i64 0] 32)
  have Y := SK.Box.new2 w (.cells #[.int .i64 0, .int .i64 0] 32) 0 0 32
  have B0 := SK.below_new2 w (.cells #[.int .i64 0, .int .i64 0] 32) (.cells #[.int .i64 0, .int .i64 0] 32)
  have hk : w.heap.size + 1 + 1 ≤ ((w.alloc (.cells #[.int .i64 0, .int .i64 0] 32)).alloc (.cells #[.int .i64 0, .int .i64 0] 32)).heap.size := by simp
  go_enter Tryd.func10, Tryd.ntmps10
  go_wp2_with fail
  refine (l6Open_any _ _ _ _ (h.kept B0)).mono ?_
  rintro e w1 ⟨rfl, R1, B1⟩
  replace R := R.kept B1
  replace Y := Y.kept B1
  have B := SK.below1 B0 B1
  generalize ((w.alloc (.cells #[.int .i64 0, .int .i64 0] 32)).alloc (.cells #[.int .i64 0, .int .i64 0] 32)).heap.size = k at *
  clear B0 B1 h
  go_wp2_with fail
  refine (l71Spots_any _ k _ (by omega) R1).mono ?_
  rintro e w2 ⟨a, l, b, m, p2, rfl, a0, a1, l0, l1, b0, b1, m0, m1, q2, R2, T2⟩
  replace R := boxTch R T2 R.lt (by omega)
  replace Y := boxTch Y T2 Y.lt (by omega)
  replace B := B.trans (T2.toBelow B.size (by omega))
  have hk2 := R2.lt
  clear T2 R1
  replace R := (R.alloc (.cells #[.int .i64 a, .int .i64 l] 32)).alloc (.cells #[.int .i64 b, .int .i64 m] 32)
  replace Y := (Y.alloc (.cells #[.int .i64 a, .int .i64 l] 32)).alloc (.cells #[.int .i64 b, .int .i64 m] 32)
  have P := (SK.Box.new w2 a l 32).alloc (.cells #[.int .i64 b, .int .i64 m] 32)
  have Q := SK.Box.new2 w2 (.cells #[.int .i64 a, .int .i64 l] 32) b m 32
  replace B := SK.below1 B (SK.below_new2 w2 (.cells #[.int .i64 a, .int .i64 l] 32) (.cells #[.int .i64 b, .int .i64 m] 32))
  replace R2 := (R2.alloc (.cells #[.int .i64 a, .int .i64 l] 32)).alloc (.cells #[.int .i64 b, .int .i64 m] 32)
  go_wp2_with fail
  refine (pick_any _ k _ _ (by omega) R2).mono ?_
  rintro e w3 ⟨v, rfl, v0, v1, R3, T3⟩
  replace v1 := v1 (by omega)
  replace R := boxTch R T3 R.lt (by omega)
  replace Y := boxTch Y T3 Y.lt (by omega)
  replace P := boxTch P T3 P.lt (by omega)
  replace Q := boxTch Q T3 Q.lt (by omega)
  replace B := B.trans (T3.toBelow B.size (by omega))
  clear T3 R2
  generalize w2.heap.size = pb at *
  have hP := P.lt
  have hQ := Q.lt
  rcases (show v = 0 ∨ 1 ≤ v by omega) with rfl | v2
  · have ⟨P0, P1, P2, P3⟩ := P
    have ⟨Q0, Q1, Q2, Q3⟩ := Q
    go_wp2_with fail
    clear P0 P1 P2 P3 Q0 Q1 Q2 Q3
    replace P : SK.Box (w3.setCell ⟨pb, 0, none⟩ (.int .i64 32400000)) pb 32400000 l := by obtain ⟨c0, c1, f0, f1⟩ := P; exact ⟨by simp [go_sem, *], by simp [go_sem, *], by simp [go_sem, *], by simp [go_sem, *]⟩
    replace R := R.apart (c := pb) (o := 0) (by omega) (.int .i64 32400000)
    replace Y := Y.apart (c := pb) (o := 0) (by omega) (.int .i64 32400000)
    replace Q := Q.apart (c := pb) (o := 0) (by omega) (.int .i64 32400000)
    replace R3 := rdHi (o := 0) (v := .int .i64 32400000) R3 (show k < pb by omega)
    have hB := B.size
    replace B : Below w.heap.size w (w3.setCell ⟨pb, 0, none⟩ (.int .i64 32400000)) := B.setCell (by simp; omega) _
    have hw4 : (w3.setCell ⟨pb, 0, none⟩ (.int .i64 32400000)).heap.size = w3.heap.size := by simp [World.setCell]
    generalize w3.setCell ⟨pb, 0, none⟩ (.int .i64 32400000) = w4 at *
    have hP4 := P.lt
    have hQ4 := Q.lt
    replace R := R.alloc (.cells #[.int .i64 32400000, .int .i64 (-32400000)] 3)
    replace Y := Y.alloc (.cells #[.int .i64 32400000, .int .i64 (-32400000)] 3)
    replace P := P.alloc (.cells #[.int .i64 32400000, .int .i64 (-32400000)] 3)
    replace Q := Q.alloc (.cells #[.int .i64 32400000, .int .i64 (-32400000)] 3)
    replace R3 := R3.alloc (.cells #[.int .i64 32400000, .int .i64 (-32400000)] 3)
    refine (pick_any _ k _ _ (by omega) R3).mono ?_
    rintro e w5 ⟨z, rfl, z0, z1, R5, T5⟩
    replace z1 := z1 (by omega)
    replace R := boxTch R T5 R.lt (by omega)
    replace Y := boxTch Y T5 Y.lt (by omega)
    replace P := boxTch P T5 P.lt (by omega)
    replace Q := boxTch Q T5 Q.lt (by omega)
    have hB4 := B.size
    replace B := (SK.below1 B (SK.below_new w4 (.cells #[.int .i64 32400000, .int .i64 (-32400000)] 3))).trans (T5.toBelow (by simp; omega) (by omega))
    rcases (show z = 0 ∨ z = 1 by omega) with rfl | rfl
    · have hc : w5.cell? ⟨w3.heap.size, 0, none⟩ = some (.int .i64 32400000) := by rw [← hw4, T5.cell (by simp) (by omega)]; simp [go_sem]
      clear T5 R3 hw4
      have ⟨Q0, Q1, Q2, Q3⟩ := Q
      go_wp2_with fail
      clear Q0 Q1 Q2 Q3
      replace Q : SK.Box (w5.setCell ⟨pb + 1, 0, none⟩ (.int .i64 32400000)) (pb + 1) 32400000 m := by obtain ⟨c0, c1, f0, f1⟩ := Q; exact ⟨by simp [go_sem, *], by simp [go_sem, *], by simp [go_sem, *], by simp [go_sem, *]⟩
      replace R := R.apart (c := pb + 1) (o := 0) (by omega) (.int .i64 32400000)
      replace Y := Y.apart (c := pb + 1) (o := 0) (by omega) (.int .i64 32400000)
      replace P := P.apart (c := pb + 1) (o := 0) (by omega) (.int .i64 32400000)
      replace B : Below w.heap.size w (w5.setCell ⟨pb + 1, 0, none⟩ (.int .i64 32400000)) := B.setCell (by simp; omega) _
      generalize w5.setCell ⟨pb + 1, 0, none⟩ (.int .i64 32400000) = w6 at *
      clear hc
      have n1 : ¬ w.heap.size = w.heap.size + 1 := by omega
      have n2 : ¬ w.heap.size = pb := by omega
      have n3 : ¬ w.heap.size = pb + 1 := by omega
      have n4 : ¬ w.heap.size + 1 = w.heap.size := by omega
      have n5 : ¬ w.heap.size + 1 = pb := by omega
      have n6 : ¬ w.heap.size + 1 = pb + 1 := by omega
      have n7 : ¬ pb = w.heap.size := by omega
      have n8 : ¬ pb = w.heap.size + 1 := by omega
      have n9 : ¬ pb = pb + 1 := by omega
      have n10 : ¬ pb + 1 = w.heap.size := by omega
      have n11 : ¬ pb + 1 = w.heap.size + 1 := by omega
      have n12 : ¬ pb + 1 = pb := by omega
      have ⟨P0, P1, P2, P3⟩ := P
      have ⟨Q0, Q1, Q2, Q3⟩ := Q
      have ⟨r0, r1, r2, r3⟩ := R
      have ⟨y0, y1, y2, y3⟩ := Y
      clear P Q R Y
      go_wp2_with fail
      go_region
      all_goals go_wp2
      all_goals refine bodyPost_ret (v := .tuple #[.agg #[.int .i64 (32400000), .int .i64 (l)], .agg #[.int .i64 (32400000), .int .i64 (m)]]) (by simp [results, Tryd.results10, go_sem, *]) rfl ⟨_, _, _, _, rfl, by omega, by omega, by omega, by omega, by omega, by omega, by omega, by omega, ?_⟩
      all_goals exact Below.drew (SK.below_set2 (SK.below_set2 B (by omega) _ _) (by omega) _ _)
    · have hc : w5.cell? ⟨w3.heap.size, 1, none⟩ = some (.int .i64 (-32400000)) := by rw [← hw4, T5.cell (by simp) (by omega)]; simp [go_sem]
      clear T5 R3 hw4
      have ⟨Q0, Q1, Q2, Q3⟩ := Q
      go_wp2_with fail
      clear Q0 Q1 Q2 Q3
      replace Q : SK.Box (w5.setCell ⟨pb + 1, 0, none⟩ (.int .i64 (-32400000))) (pb + 1) (-32400000) m := by obtain ⟨c0, c1, f0, f1⟩ := Q; exact ⟨by simp [go_sem, *], by simp [go_sem, *], by simp [go_sem, *], by simp [go_sem, *]⟩
      replace R := R.apart (c := pb + 1) (o := 0) (by omega) (.int .i64 (-32400000))
      replace Y := Y.apart (c := pb + 1) (o := 0) (by omega) (.int .i64 (-32400000))
      replace P := P.apart (c := pb + 1) (o := 0) (by omega) (.int .i64 (-32400000))
      replace B : Below w.heap.size w (w5.setCell ⟨pb + 1, 0, none⟩ (.int .i64 (-32400000))) := B.setCell (by simp; omega) _
      generalize w5.setCell ⟨pb + 1, 0, none⟩ (.int .i64 (-32400000)) = w6 at *
      clear hc
      have n1 : ¬ w.heap.size = w.heap.size + 1 := by omega
      have n2 : ¬ w.heap.size = pb := by omega
      have n3 : ¬ w.heap.size = pb + 1 := by omega
      have n4 : ¬ w.heap.size + 1 = w.heap.size := by omega
      have n5 : ¬ w.heap.size + 1 = pb := by omega
      have n6 : ¬ w.heap.size + 1 = pb + 1 := by omega
      have n7 : ¬ pb = w.heap.size := by omega
      have n8 : ¬ pb = w.heap.size + 1 := by omega
      have n9 : ¬ pb = pb + 1 := by omega
      have n10 : ¬ pb + 1 = w.heap.size := by omega
      have n11 : ¬ pb + 1 = w.heap.size + 1 := by omega
      have n12 : ¬ pb + 1 = pb := by omega
      have ⟨P0, P1, P2, P3⟩ := P
      have ⟨Q0, Q1, Q2, Q3⟩ := Q
      have ⟨r0, r1, r2, r3⟩ := R
      have ⟨y0, y1, y2, y3⟩ := Y
      clear P Q R Y
      go_wp2_with fail
      go_region
      all_goals go_wp2
      all_goals refine bodyPost_ret (v := .tuple #[.agg #[.int .i64 (32400000), .int .i64 (l)], .agg #[.int .i64 ((-32400000)), .int .i64 (m)]]) (by simp [results, Tryd.results10, go_sem, *]) rfl ⟨_, _, _, _, rfl, by omega, by omega, by omega, by omega, by omega, by omega, by omega, by omega, ?_⟩
      all_goals exact Below.drew (SK.below_set2 (SK.below_set2 B (by omega) _ _) (by omega) _ _)
  · have e0 : (v == 0) = false := by simp; omega
    have n1 : ¬ w.heap.size = w.heap.size + 1 := by omega
    have n2 : ¬ w.heap.size = pb := by omega
    have n3 : ¬ w.heap.size = pb + 1 := by omega
    have n4 : ¬ w.heap.size + 1 = w.heap.size := by omega
    have n5 : ¬ w.heap.size + 1 = pb := by omega
    have n6 : ¬ w.heap.size + 1 = pb + 1 := by omega
    have n7 : ¬ pb = w.heap.size := by omega
    have n8 : ¬ pb = w.heap.size + 1 := by omega
    have n9 : ¬ pb = pb + 1 := by omega
    have n10 : ¬ pb + 1 = w.heap.size := by omega
    have n11 : ¬ pb + 1 = w.heap.size + 1 := by omega
    have n12 : ¬ pb + 1 = pb := by omega
    have ⟨P0, P1, P2, P3⟩ := P
    have ⟨Q0, Q1, Q2, Q3⟩ := Q
    have ⟨r0, r1, r2, r3⟩ := R
    have ⟨y0, y1, y2, y3⟩ := Y
    clear P Q R Y
    go_wp2_with fail
    go_region
    all_goals go_wp2
    all_goals refine bodyPost_ret (v := .tuple #[.agg #[.int .i64 (a), .int .i64 (l)], .agg #[.int .i64 (b), .int .i64 (m)]]) (by simp [results, Tryd.results10, go_sem, *]) rfl ⟨_, _, _, _, rfl, by omega, by omega, by omega, by omega, by omega, by omega, by omega, by omega, ?_⟩
    all_goals exact Below.drew (SK.below_set2 (SK.below_set2 B (by omega) _ _) (by omega) _ _)
end DS
end Go.Proofs.YtfdkpcejjcifgalDoor
