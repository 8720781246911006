/-
  The draws of places: two places.
-/
import Derived.Test.YtfdkpcejjcifgamDoorDrawFan
import Derived.Test.YtfdkpcejjcifgamDoorSpotWalks
import Derived.Test.YtfdkpcejjcifgamDoorDrawSpot
import Derived.Test.YtfdkpcejjcifgamDoorLoose2
import Derived.RegionTactic
namespace Go.Proofs.YtfdkpcejjcifgamDoor
open Go.RowKit Go.Sort
set_option linter.unusedVariables false
namespace DS
open DK DW DF SK
/-- A world in which the reader has gone on from 'w0', so many draws being left. -/
structure Wd (k : Nat) (w0 : World) (f : Nat) where
  w : World
  rd : ∃ p, Rd w k p ∧ p + 200 * f ≤ 800000000
  tc : Tch k w0.heap.size w0 w
abbrev Cr (k : Nat) (w0 : World) : Nat → World → Prop := fun f w' => ∃ q : Wd k w0 f, w' = q.w
theorem Cr.mono {k : Nat} {w0 : World} : ∀ f w, Cr k w0 (f + 1) w → Cr k w0 f w := by
  rintro f w ⟨q, rfl⟩
  obtain ⟨p, h1, h2⟩ := q.rd
  exact ⟨⟨q.w, ⟨p, h1, by omega⟩, q.tc⟩, rfl⟩
theorem Cr.start {k p : Nat} {w0 : World} (n : Nat) (R : Rd w0 k p) (h : p + 200 * n ≤ 800000000) : Cr k w0 n { w0 with drawn := w0.drawn + 1 } :=
  ⟨⟨w0.drew, ⟨p, R.drew, h⟩, (Tch.refl _ _ _).drew⟩, rfl⟩
/-- Values of which only themselves are known. -/
def ndV (g : Nat → Option (Value → Prop)) : Nat → Option (Act → Value → World → Prop) := fun i => (g i).map fun φ _ u _ => φ u
theorem ndV_local {ops : Array Oper} (g : Nat → Option (Value → Prop)) : LQ.Local ops (ndV g) := by
  intro j Φ oj hn _ a dst v _
  unfold ndV at hn
  obtain ⟨φ, _, rfl⟩ := Option.map_eq_some_iff.1 hn
  rfl
theorem ndV_keeps {g : Nat → Option (Value → Prop)} {w w' : World} : LQ.Keeps (ndV g) w w' := by
  intro i Φ a u hn h
  unfold ndV at hn
  obtain ⟨φ, _, rfl⟩ := Option.map_eq_some_iff.1 hn
  exact h
def isNum (n : Int) (u : Value) : Prop := ∃ z : Int, u = .int .i64 z ∧ 0 ≤ z ∧ z < n
theorem pick_loose {g : Nat → Option (Value → Prop)} {k f : Nat} {w0 : World} (q : Wd k w0 (f + 1)) (n : Int) (hn : 1 ≤ n) :
    Calls Tryd.prog 32 #[.pointer (some ⟨k, 0, none⟩), .int .i64 n] q.w fun e w'' => ∃ u, e = .returned u ∧ Cr k w0 f w'' ∧ (∃ z : Int, u = .int .i64 z ∧ 0 ≤ z ∧ z < n) ∧ LQ.Keeps (ndV g) q.w w'' := by
  obtain ⟨p, R, hp⟩ := q.rd
  refine (pick_any q.w k p n (by omega) R).mono ?_
  rintro e w1 ⟨v, rfl, v0, v1, R1, T1⟩
  exact ⟨_, rfl, ⟨⟨w1, ⟨_, R1, by omega⟩, q.tc.trans (T1.mono q.tc.size)⟩, rfl⟩, ⟨v, rfl, v0, v1 hn⟩, ndV_keeps⟩
set_option maxHeartbeats 4000000 in
theorem l71Spots_any (w : World) (k p : Nat) (hp : p ≤ 700000000) (h : Rd w k p) :
    Calls Tryd.prog 16 #[.pointer (some ⟨k, 0, none⟩)] w fun e w' => ∃ a l b m : Int, ∃ p' : Nat, e = .returned (.tuple #[SK.spV a l, SK.spV b m]) ∧ -32400010 ≤ a ∧ a ≤ 32400010 ∧ -10 ≤ l ∧ l ≤ 129600010 ∧ -32400010 ≤ b ∧ b ≤ 32400010 ∧ -10 ≤ m ∧ m ≤ 129600010 ∧ p' ≤ 800000000 ∧ Rd w' k p' ∧ Tch k w.heap.size w w' := by
  have hk := h.lt
  have R := (SK.Box.new w 0 0 24).alloc (.cells #[.int .i64 0, .int .i64 0] 24)
  have Z := SK.Box.new2 w (.cells #[.int .i64 0, .int .i64 0] 24) 0 0 24
  have T := ((Tch.refl k w.heap.size w).alloc (Nat.le_refl _) (.cells #[.int .i64 0, .int .i64 0] 24)).alloc (by simp) (.cells #[.int .i64 0, .int .i64 0] 24)
  go_enter Tryd.func16, Tryd.ntmps16
  go_wp2_with fail
  refine (l71Spot_any _ k p (by omega) ((h.alloc _).alloc _)).mono ?_
  rintro e w1 ⟨a, l, p1, rfl, a0, a1, l0, l1, q1, R1, T1⟩
  replace R := boxTch R T1 R.lt (by omega)
  replace Z := boxTch Z T1 Z.lt (by omega)
  replace T := T.trans (T1.mono T.size)
  have hZ := Z.lt
  clear h T1
  have P := SK.Box.new w1 a l 24
  replace R := R.alloc (.cells #[.int .i64 a, .int .i64 l] 24)
  replace Z := Z.alloc (.cells #[.int .i64 a, .int .i64 l] 24)
  replace T := T.alloc T.size (.cells #[.int .i64 a, .int .i64 l] 24)
  replace R1 := R1.alloc (.cells #[.int .i64 a, .int .i64 l] 24)
  go_wp2_with fail
  refine (l71Spot_any _ k p1 (by omega) R1).mono ?_
  rintro e w2 ⟨b, m, p2, rfl, b0, b1, m0, m1, q2, R2, T2⟩
  replace R := boxTch R T2 R.lt (by omega)
  replace Z := boxTch Z T2 Z.lt (by omega)
  replace P := boxTch P T2 P.lt (by omega)
  replace T := T.trans (T2.mono T.size)
  have hP := P.lt
  clear T2 R1
  have Q := SK.Box.new w2 b m 24
  replace R := R.alloc (.cells #[.int .i64 b, .int .i64 m] 24)
  replace Z := Z.alloc (.cells #[.int .i64 b, .int .i64 m] 24)
  replace P := P.alloc (.cells #[.int .i64 b, .int .i64 m] 24)
  replace T := T.alloc T.size (.cells #[.int .i64 b, .int .i64 m] 24)
  replace R2 := R2.alloc (.cells #[.int .i64 b, .int .i64 m] 24)
  go_wp2_with fail
  refine (pick_any _ k _ _ (by omega) R2).mono ?_
  rintro e w3 ⟨v, rfl, v0, v1, R3, T3⟩
  replace v1 := v1 (by omega)
  replace R := boxTch R T3 R.lt (by omega)
  replace Z := boxTch Z T3 Z.lt (by omega)
  replace P := boxTch P T3 P.lt (by omega)
  replace Q := boxTch Q T3 Q.lt (by omega)
  replace T := T.trans (T3.mono T.size)
  have hQ := Q.lt
  clear T3 R2
  generalize w1.heap.size = pb at *
  generalize w2.heap.size = qb at *
  rcases (show v = 0 ∨ v = 1 ∨ v = 2 ∨ v = 3 ∨ 4 ≤ v by omega) with rfl | rfl | rfl | rfl | v2
  · have ⟨P0, P1, P2, P3⟩ := P
    have ⟨Q0, Q1, Q2, Q3⟩ := Q
    go_wp2_with fail
    clear P0 P1 P2 P3 Q0 Q1 Q2 Q3
    replace Q := Q.set a l
    replace P := P.apart (c := qb) (o := 0) (by omega) (.int .i64 (a))
    replace P := P.apart (c := qb) (o := 1) (by omega) (.int .i64 (l))
    replace R := R.apart (c := qb) (o := 0) (by omega) (.int .i64 (a))
    replace R := R.apart (c := qb) (o := 1) (by omega) (.int .i64 (l))
    replace Z := Z.apart (c := qb) (o := 0) (by omega) (.int .i64 (a))
    replace Z := Z.apart (c := qb) (o := 1) (by omega) (.int .i64 (l))
    replace R3 := rdHi (o := 1) (v := .int .i64 l) (rdHi (o := 0) (v := .int .i64 a) R3 (show k < qb by omega)) (show k < qb by omega)
    replace T := tchHi (o := 1) (v := .int .i64 l) (tchHi (o := 0) (v := .int .i64 a) T (show w.heap.size ≤ qb by omega)) (show w.heap.size ≤ qb by omega)
    generalize (w3.setCell ⟨qb, 0, none⟩ (.int .i64 a)).setCell ⟨qb, 1, none⟩ (.int .i64 l) = w5 at *
    have n1 : ¬ w.heap.size = w.heap.size + 1 := by omega
    have n2 : ¬ w.heap.size = pb := by omega
    have n3 : ¬ w.heap.size = qb := by omega
    have n4 : ¬ w.heap.size + 1 = w.heap.size := by omega
    have n5 : ¬ w.heap.size + 1 = pb := by omega
    have n6 : ¬ w.heap.size + 1 = qb := by omega
    have n7 : ¬ pb = w.heap.size := by omega
    have n8 : ¬ pb = w.heap.size + 1 := by omega
    have n9 : ¬ pb = qb := by omega
    have n10 : ¬ qb = w.heap.size := by omega
    have n11 : ¬ qb = w.heap.size + 1 := by omega
    have n12 : ¬ qb = pb := by omega
    have ⟨P0, P1, P2, P3⟩ := P
    have ⟨Q0, Q1, Q2, Q3⟩ := Q
    have ⟨r0, r1, r2, r3⟩ := R
    have ⟨Z0, Z1, Z2, Z3⟩ := Z
    clear P Q R Z
    go_wp2_with fail
    go_region
    all_goals go_wp2
    all_goals refine bodyPost_ret (v := .tuple #[.agg #[.int .i64 (a), .int .i64 (l)], .agg #[.int .i64 (a), .int .i64 (l)]]) (by simp [results, Tryd.results16, go_sem, *]) rfl ⟨_, _, _, _, p2 + 1, rfl, by omega, by omega, by omega, by omega, by omega, by omega, by omega, by omega, ?_, ?_, ?_⟩
    all_goals first | omega | exact Tch.drew (tchHi (tchHi (tchHi (tchHi T (by omega)) (by omega)) (by omega)) (by omega)) | exact Rd.drew (rdHi (rdHi (rdHi (rdHi R3 (by omega)) (by omega)) (by omega)) (by omega))
  · have ⟨P0, P1, P2, P3⟩ := P
    have ⟨Q0, Q1, Q2, Q3⟩ := Q
    go_wp2_with fail
    clear P0 P1 P2 P3 Q0 Q1 Q2 Q3
    replace Q : SK.Box (w3.setCell ⟨qb, 1, none⟩ (.int .i64 l)) qb b l := by obtain ⟨c0, c1, f0, f1⟩ := Q; exact ⟨by simp [go_sem, *], by simp [go_sem, *], by simp [go_sem, *], by simp [go_sem, *]⟩
    replace P := P.apart (c := qb) (o := 1) (by omega) (.int .i64 (l))
    replace R := R.apart (c := qb) (o := 1) (by omega) (.int .i64 (l))
    replace Z := Z.apart (c := qb) (o := 1) (by omega) (.int .i64 (l))
    replace R3 := rdHi (o := 1) (v := .int .i64 l) R3 (show k < qb by omega)
    replace T := tchHi (o := 1) (v := .int .i64 l) T (show w.heap.size ≤ qb by omega)
    generalize w3.setCell ⟨qb, 1, none⟩ (.int .i64 l) = w5 at *
    have n1 : ¬ w.heap.size = w.heap.size + 1 := by omega
    have n2 : ¬ w.heap.size = pb := by omega
    have n3 : ¬ w.heap.size = qb := by omega
    have n4 : ¬ w.heap.size + 1 = w.heap.size := by omega
    have n5 : ¬ w.heap.size + 1 = pb := by omega
    have n6 : ¬ w.heap.size + 1 = qb := by omega
    have n7 : ¬ pb = w.heap.size := by omega
    have n8 : ¬ pb = w.heap.size + 1 := by omega
    have n9 : ¬ pb = qb := by omega
    have n10 : ¬ qb = w.heap.size := by omega
    have n11 : ¬ qb = w.heap.size + 1 := by omega
    have n12 : ¬ qb = pb := by omega
    have ⟨P0, P1, P2, P3⟩ := P
    have ⟨Q0, Q1, Q2, Q3⟩ := Q
    have ⟨r0, r1, r2, r3⟩ := R
    have ⟨Z0, Z1, Z2, Z3⟩ := Z
    clear P Q R Z
    go_wp2_with fail
    go_region
    all_goals go_wp2
    all_goals refine bodyPost_ret (v := .tuple #[.agg #[.int .i64 (a), .int .i64 (l)], .agg #[.int .i64 (b), .int .i64 (l)]]) (by simp [results, Tryd.results16, go_sem, *]) rfl ⟨_, _, _, _, p2 + 1, rfl, by omega, by omega, by omega, by omega, by omega, by omega, by omega, by omega, ?_, ?_, ?_⟩
    all_goals first | omega | exact Tch.drew (tchHi (tchHi (tchHi (tchHi T (by omega)) (by omega)) (by omega)) (by omega)) | exact Rd.drew (rdHi (rdHi (rdHi (rdHi R3 (by omega)) (by omega)) (by omega)) (by omega))
  · have K := fun w => SK.sSpotFar_any a l w
    cases ok : SK.okP a l
    · rw [ok] at K
      simp only [SM.sel] at K
      clear ok
      have ⟨P0, P1, P2, P3⟩ := P
      go_wp2_with fail
      refine (K _).mono ?_
      rintro e w4 ⟨rfl, Bx⟩
      clear P0 P1 P2 P3
      replace P := (P.kept Bx).alloc (.cells #[.int .i64 (0), .int .i64 (0)] 24)
      replace Q := (Q.kept Bx).alloc (.cells #[.int .i64 (0), .int .i64 (0)] 24)
      replace R := (R.kept Bx).alloc (.cells #[.int .i64 (0), .int .i64 (0)] 24)
      replace Z := (Z.kept Bx).alloc (.cells #[.int .i64 (0), .int .i64 (0)] 24)
      have hw := Bx.size
      have R4 := (R3.kept Bx).alloc (.cells #[.int .i64 (0), .int .i64 (0)] 24)
      have T4 := (T.trans (Tch.ofBelow (k := k) (Bx.mono T.size))).alloc (Nat.le_trans T.size Bx.size) (.cells #[.int .i64 (0), .int .i64 (0)] 24)
      have X := SK.Box.new w4 (0) (0) 24
      clear T
      have T := T4
      clear T4 R3 K Bx
      clear X
      go_wp2_with fail
      generalize w4.alloc (.cells #[.int .i64 (0), .int .i64 (0)] 24) = w5 at *
      have n1 : ¬ w.heap.size = w.heap.size + 1 := by omega
      have n2 : ¬ w.heap.size = pb := by omega
      have n3 : ¬ w.heap.size = qb := by omega
      have n4 : ¬ w.heap.size + 1 = w.heap.size := by omega
      have n5 : ¬ w.heap.size + 1 = pb := by omega
      have n6 : ¬ w.heap.size + 1 = qb := by omega
      have n7 : ¬ pb = w.heap.size := by omega
      have n8 : ¬ pb = w.heap.size + 1 := by omega
      have n9 : ¬ pb = qb := by omega
      have n10 : ¬ qb = w.heap.size := by omega
      have n11 : ¬ qb = w.heap.size + 1 := by omega
      have n12 : ¬ qb = pb := by omega
      have ⟨P0, P1, P2, P3⟩ := P
      have ⟨Q0, Q1, Q2, Q3⟩ := Q
      have ⟨r0, r1, r2, r3⟩ := R
      have ⟨Z0, Z1, Z2, Z3⟩ := Z
      clear P Q R Z
      go_wp2_with fail
      go_region
      all_goals go_wp2
      all_goals refine bodyPost_ret (v := .tuple #[.agg #[.int .i64 (a), .int .i64 (l)], .agg #[.int .i64 (b), .int .i64 (m)]]) (by simp [results, Tryd.results16, go_sem, *]) rfl ⟨_, _, _, _, p2 + 1, rfl, by omega, by omega, by omega, by omega, by omega, by omega, by omega, by omega, ?_, ?_, ?_⟩
      all_goals first | omega | exact Tch.drew (tchHi (tchHi (tchHi (tchHi T (by omega)) (by omega)) (by omega)) (by omega)) | exact Rd.drew (rdHi (rdHi (rdHi (rdHi R4 (by omega)) (by omega)) (by omega)) (by omega))
    · rw [ok] at K
      simp only [SM.sel] at K
      obtain ⟨⟨g1, g2⟩, g3, g4⟩ := SK.okP_of ok
      have fb : 0 ≤ SK.farL l ∧ SK.farL l ≤ 129599999 := by unfold SK.farL; split <;> omega
      obtain ⟨fb0, fb1⟩ := fb
      generalize SK.farL l = f at *
      clear ok
      have ⟨P0, P1, P2, P3⟩ := P
      go_wp2_with fail
      refine (K _).mono ?_
      rintro e w4 ⟨rfl, Bx⟩
      clear P0 P1 P2 P3
      replace P := (P.kept Bx).alloc (.cells #[.int .i64 (-a), .int .i64 (f)] 24)
      replace Q := (Q.kept Bx).alloc (.cells #[.int .i64 (-a), .int .i64 (f)] 24)
      replace R := (R.kept Bx).alloc (.cells #[.int .i64 (-a), .int .i64 (f)] 24)
      replace Z := (Z.kept Bx).alloc (.cells #[.int .i64 (-a), .int .i64 (f)] 24)
      have hw := Bx.size
      have R4 := (R3.kept Bx).alloc (.cells #[.int .i64 (-a), .int .i64 (f)] 24)
      have T4 := (T.trans (Tch.ofBelow (k := k) (Bx.mono T.size))).alloc (Nat.le_trans T.size Bx.size) (.cells #[.int .i64 (-a), .int .i64 (f)] 24)
      have X := SK.Box.new w4 (-a) (f) 24
      clear T
      have T := T4
      clear T4 R3 K Bx
      clear Q
      have Q := X
      clear X
      go_wp2_with fail
      generalize hq : w4.heap.size = fb at *
      generalize w4.alloc (.cells #[.int .i64 (-a), .int .i64 (f)] 24) = w5 at *
      have n1 : ¬ w.heap.size = w.heap.size + 1 := by omega
      have n2 : ¬ w.heap.size = pb := by omega
      have n3 : ¬ w.heap.size = fb := by omega
      have n4 : ¬ w.heap.size + 1 = w.heap.size := by omega
      have n5 : ¬ w.heap.size + 1 = pb := by omega
      have n6 : ¬ w.heap.size + 1 = fb := by omega
      have n7 : ¬ pb = w.heap.size := by omega
      have n8 : ¬ pb = w.heap.size + 1 := by omega
      have n9 : ¬ pb = fb := by omega
      have n10 : ¬ fb = w.heap.size := by omega
      have n11 : ¬ fb = w.heap.size + 1 := by omega
      have n12 : ¬ fb = pb := by omega
      have ⟨P0, P1, P2, P3⟩ := P
      have ⟨Q0, Q1, Q2, Q3⟩ := Q
      have ⟨r0, r1, r2, r3⟩ := R
      have ⟨Z0, Z1, Z2, Z3⟩ := Z
      clear P Q R Z
      go_wp2_with fail
      go_region
      all_goals go_wp2
      all_goals refine bodyPost_ret (v := .tuple #[.agg #[.int .i64 (a), .int .i64 (l)], .agg #[.int .i64 (-a), .int .i64 (f)]]) (by simp [results, Tryd.results16, go_sem, *]) rfl ⟨_, _, _, _, p2 + 1, rfl, by omega, by omega, by omega, by omega, by omega, by omega, by omega, by omega, ?_, ?_, ?_⟩
      all_goals first | omega | exact Tch.drew (tchHi (tchHi (tchHi (tchHi T (by omega)) (by omega)) (by omega)) (by omega)) | exact Rd.drew (rdHi (rdHi (rdHi (rdHi R4 (by omega)) (by omega)) (by omega)) (by omega))
  · go_wp2_with fail
    have kP0 : ∀ f (q : Wd k w3 f), q.w.cell? ⟨pb, 0, none⟩ = some (.int .i64 a) := fun f q => (boxTch P q.tc P.lt (by omega)).c0
    refine LQ.region (Cr k w3) (ndV fun i => if i = 3 then some (isNum 129600000) else none) 4 [0, 1, 2, 3] (ndV_local _) (by kernel_rfl) (by kernel_rfl) Cr.mono (Cr.start 4 R3 (by omega)) ?_
    iterate 3 (refine LQ.stepD rfl rfl (fun N hN => ?_); go_simp; apply Exists.intro; refine ⟨fun _ _ _ => ?_, hN _ _ ?_⟩; exact And.intro rfl rfl; clear hN N)
    refine LQ.stepN rfl rfl (fun N hN => ?_)
    go_simp
    refine ⟨fun f q _ => And.intro rfl (pick_loose q 129600000 (by omega)), ?_⟩
    rintro u ⟨x, rfl, x0, x1⟩
    refine hN _ _ ?_
    clear hN N
    refine LQ.lexEnd ?_
    rintro w6 ⟨q, rfl⟩ kn
    clear kn kP0
    obtain ⟨p6, R6, q6⟩ := q.rd
    replace P := boxTch P q.tc P.lt (by omega)
    replace Q := boxTch Q q.tc Q.lt (by omega)
    replace R := boxTch R q.tc R.lt (by omega)
    replace Z := boxTch Z q.tc Z.lt (by omega)
    replace T := T.trans (q.tc.mono T.size)
    have hp6 : p6 + 200 * 0 ≤ 800000000 := q6
    generalize q.w = w6 at *
    clear R3
    simp only [List.drop]
    have ⟨Q0, Q1, Q2, Q3⟩ := Q
    go_wp2_with fail
    clear Q0 Q1 Q2 Q3
    replace Q := Q.set a x
    replace P := P.apart (c := qb) (o := 0) (by omega) (.int .i64 (a))
    replace P := P.apart (c := qb) (o := 1) (by omega) (.int .i64 (x))
    replace R := R.apart (c := qb) (o := 0) (by omega) (.int .i64 (a))
    replace R := R.apart (c := qb) (o := 1) (by omega) (.int .i64 (x))
    replace Z := Z.apart (c := qb) (o := 0) (by omega) (.int .i64 (a))
    replace Z := Z.apart (c := qb) (o := 1) (by omega) (.int .i64 (x))
    replace R6 := rdHi (o := 1) (v := .int .i64 x) (rdHi (o := 0) (v := .int .i64 a) R6 (show k < qb by omega)) (show k < qb by omega)
    replace T := tchHi (o := 1) (v := .int .i64 x) (tchHi (o := 0) (v := .int .i64 a) T (show w.heap.size ≤ qb by omega)) (show w.heap.size ≤ qb by omega)
    generalize (w6.setCell ⟨qb, 0, none⟩ (.int .i64 a)).setCell ⟨qb, 1, none⟩ (.int .i64 x) = w5 at *
    have n1 : ¬ w.heap.size = w.heap.size + 1 := by omega
    have n2 : ¬ w.heap.size = pb := by omega
    have n3 : ¬ w.heap.size = qb := by omega
    have n4 : ¬ w.heap.size + 1 = w.heap.size := by omega
    have n5 : ¬ w.heap.size + 1 = pb := by omega
    have n6 : ¬ w.heap.size + 1 = qb := by omega
    have n7 : ¬ pb = w.heap.size := by omega
    have n8 : ¬ pb = w.heap.size + 1 := by omega
    have n9 : ¬ pb = qb := by omega
    have n10 : ¬ qb = w.heap.size := by omega
    have n11 : ¬ qb = w.heap.size + 1 := by omega
    have n12 : ¬ qb = pb := by omega
    have ⟨P0, P1, P2, P3⟩ := P
    have ⟨Q0, Q1, Q2, Q3⟩ := Q
    have ⟨r0, r1, r2, r3⟩ := R
    have ⟨Z0, Z1, Z2, Z3⟩ := Z
    clear P Q R Z
    go_wp2_with fail
    go_region
    all_goals go_wp2
    all_goals refine bodyPost_ret (v := .tuple #[.agg #[.int .i64 (a), .int .i64 (l)], .agg #[.int .i64 (a), .int .i64 (x)]]) (by simp [results, Tryd.results16, go_sem, *]) rfl ⟨_, _, _, _, p6, rfl, by omega, by omega, by omega, by omega, by omega, by omega, by omega, by omega, ?_, ?_, ?_⟩
    all_goals first | omega | exact Tch.drew (tchHi (tchHi (tchHi (tchHi T (by omega)) (by omega)) (by omega)) (by omega)) | exact Rd.drew (rdHi (rdHi (rdHi (rdHi R6 (by omega)) (by omega)) (by omega)) (by omega))
  · have e0 : (v == 0) = false := by simp; omega
    have e1 : (v == 1) = false := by simp; omega
    have e2 : (v == 2) = false := by simp; omega
    have e3 : (v == 3) = false := by simp; omega
    go_wp2_with fail
    have n1 : ¬ w.heap.size = w.heap.size + 1 := by omega
    have n2 : ¬ w.heap.size = pb := by omega
    have n3 : ¬ w.heap.size = qb := by omega
    have n4 : ¬ w.heap.size + 1 = w.heap.size := by omega
    have n5 : ¬ w.heap.size + 1 = pb := by omega
    have n6 : ¬ w.heap.size + 1 = qb := by omega
    have n7 : ¬ pb = w.heap.size := by omega
    have n8 : ¬ pb = w.heap.size + 1 := by omega
    have n9 : ¬ pb = qb := by omega
    have n10 : ¬ qb = w.heap.size := by omega
    have n11 : ¬ qb = w.heap.size + 1 := by omega
    have n12 : ¬ qb = pb := by omega
    have ⟨P0, P1, P2, P3⟩ := P
    have ⟨Q0, Q1, Q2, Q3⟩ := Q
    have ⟨r0, r1, r2, r3⟩ := R
    have ⟨Z0, Z1, Z2, Z3⟩ := Z
    clear P Q R Z
    go_wp2_with fail
    go_region
    all_goals go_wp2
    all_goals refine bodyPost_ret (v := .tuple #[.agg #[.int .i64 (a), .int .i64 (l)], .agg #[.int .i64 (b), .int .i64 (m)]]) (by simp [results, Tryd.results16, go_sem, *]) rfl ⟨_, _, _, _, p2 + 1, rfl, by omega, by omega, by omega, by omega, by omega, by omega, by omega, by omega, ?_, ?_, ?_⟩
    all_goals first | omega | exact Tch.drew (tchHi (tchHi (tchHi (tchHi T (by omega)) (by omega)) (by omega)) (by omega)) | exact Rd.drew (rdHi (rdHi (rdHi (rdHi R3 (by omega)) (by omega)) (by omega)) (by omega))
end DS
end Go.Proofs.YtfdkpcejjcifgamDoor
