/-
  What the program's functions of chapter 12 return: sines of all angles.
-/
import Derived.Test.YtiidbbnclhknpaaDoorSineRowImpl
import Derived.Test.YtiidbbnclhknpaaDoorSineWalks2
import Derived.Test.YtiidbbnclhknpaaDoorSpanMath
namespace Go.Proofs.YtiidbbnclhknpaaDoor
open Go.RowKit Go.Sort
set_option linter.unusedVariables false
namespace SK
set_option maxHeartbeats 4000000 in
theorem sineByArc_any (h : Int) (w : World) (h0 : 0 ≤ h) (h1 : h ≤ 32400000) :
    Calls Tryd.prog 52 #[spV (SI.aL h) (SI.aH h)] w fun e w' => e = .returned (spV (SI.smL h) (SI.smH h)) ∧ Below w.heap.size w w' := by
  obtain ⟨a0, a1, a2, _⟩ := SI.arc_bd h0 h1
  have E1 : Hide (SI.smL h = max (SI.row 21 (SI.aL h) (SI.aL h) (SI.aL h) (SI.aL h) true (SI.aL h) 2).1 0) := ⟨rfl⟩
  have E2 : Hide (SI.smH h = (SI.row 21 (SI.aH h) (SI.aH h) (SI.aH h) (SI.aH h) true (SI.aH h) 2).2) := ⟨rfl⟩
  generalize SI.aL h = p at *
  generalize SI.aH h = q at *
  have rp := fun w => row_any p p 2 (by omega) (by omega) (by omega) (by omega) (by omega) (by omega) w
  have rq := fun w => row_any q q 2 (by omega) (by omega) (by omega) (by omega) (by omega) (by omega) w
  generalize SI.row 21 p p p p true p 2 = Rp at *
  obtain ⟨xp, yp⟩ := Rp
  generalize SI.row 21 q q q q true q 2 = Rq at *
  obtain ⟨xq, yq⟩ := Rq
  simp only [] at *
  go_enter Tryd.func52, Tryd.ntmps52
  have X := (Box.new w p q 26).alloc (.cells #[.int .i64 0, .int .i64 0] 26)
  have R := Box.new2 w (.cells #[.int .i64 p, .int .i64 q] 26) 0 0 26
  have B := below_new2 w (.cells #[.int .i64 p, .int .i64 q] 26) (.cells #[.int .i64 0, .int .i64 0] 26)
  go_wp2_with fail
  generalize ((w.alloc (.cells #[.int .i64 p, .int .i64 q] 26)).alloc (.cells #[.int .i64 0, .int .i64 0] 26)) = W at *
  have fl0 := field0
  have fl1 := field1
  have k0 := cell_regrown X.c0
  have k1 := cell_regrown X.c1
  have c1 : ∀ d os, Calls Tryd.prog 61 #[.int .i64 p, .int .i64 p, .int .i64 2] (grow (redrawn W d) os) fun e w'' => e = .returned (spV xp yp) ∧ ∃ p : Regrown, w'' = grow (redrawn W p.d) p.os := fun d os => Calls.regrown_of (rp _)
  have c2 : ∀ d os, Calls Tryd.prog 61 #[.int .i64 q, .int .i64 q, .int .i64 2] (grow (redrawn W d) os) fun e w'' => e = .returned (spV xq yq) ∧ ∃ p : Regrown, w'' = grow (redrawn W p.d) p.os := fun d os => Calls.regrown_of (rq _)
  refine QT.region 14 (by kernel_rfl) (by kernel_rfl) ?_
  simp only [List.take, List.drop]
  repeat (quiet_step (fail))
  quiet_step (exact c1 _ _)
  repeat (quiet_step (fail))
  quiet_step (exact c2 _ _)
  repeat (quiet_step (fail))
  refine wpQuiet_nil ?_
  rintro _ ⟨p', rfl⟩
  have B2 := below_regrown W p'.d p'.os
  generalize grow (redrawn W p'.d) p'.os = V at *
  obtain ⟨e0, e1, i0, i1⟩ := R.kept B2
  replace B := below1 B B2
  clear B2 c1 c2 k0 k1 X rp rq
  go_wp2
  refine bodyPost_ret (v := .agg #[.int .i64 (max xp 0), .int .i64 (yq)]) (by simp [results, Tryd.results52, go_sem, *]) rfl ⟨by rw [E1.out, E2.out], ?_⟩
  exact below_set2 B (by omega) _ _
set_option maxHeartbeats 4000000 in
theorem cosByArc_any (h : Int) (w : World) (h0 : 0 ≤ h) (h1 : h ≤ 32400000) :
    Calls Tryd.prog 54 #[spV (SI.aL h) (SI.aH h)] w fun e w' => e = .returned (spV (SI.nrL h) (SI.nrH h)) ∧ Below w.heap.size w w' := by
  obtain ⟨a0, a1, a2, _⟩ := SI.arc_bd h0 h1
  have E1 : Hide (SI.nrL h = (SI.row 21 1000000000 1000000000 1000000000 1000000000 true (SI.aH h) 1).1) := ⟨rfl⟩
  have E2 : Hide (SI.nrH h = min (SI.row 21 1000000000 1000000000 1000000000 1000000000 true (SI.aL h) 1).2 1000000000) := ⟨rfl⟩
  generalize SI.aL h = p at *
  generalize SI.aH h = q at *
  have rq := fun w => row_any 1000000000 q 1 (by omega) (by omega) (by omega) (by omega) (by omega) (by omega) w
  have rp := fun w => row_any 1000000000 p 1 (by omega) (by omega) (by omega) (by omega) (by omega) (by omega) w
  generalize SI.row 21 1000000000 1000000000 1000000000 1000000000 true q 1 = Rq at *
  obtain ⟨xq, yq⟩ := Rq
  generalize SI.row 21 1000000000 1000000000 1000000000 1000000000 true p 1 = Rp at *
  obtain ⟨xp, yp⟩ := Rp
  simp only [] at *
  go_enter Tryd.func54, Tryd.ntmps54
  have X := (Box.new w p q 26).alloc (.cells #[.int .i64 0, .int .i64 0] 26)
  have R := Box.new2 w (.cells #[.int .i64 p, .int .i64 q] 26) 0 0 26
  have B := below_new2 w (.cells #[.int .i64 p, .int .i64 q] 26) (.cells #[.int .i64 0, .int .i64 0] 26)
  go_wp2_with fail
  generalize ((w.alloc (.cells #[.int .i64 p, .int .i64 q] 26)).alloc (.cells #[.int .i64 0, .int .i64 0] 26)) = W at *
  have fl0 := field0
  have fl1 := field1
  have k0 := cell_regrown X.c0
  have k1 := cell_regrown X.c1
  have c1 : ∀ d os, Calls Tryd.prog 61 #[.int .i64 1000000000, .int .i64 q, .int .i64 1] (grow (redrawn W d) os) fun e w'' => e = .returned (spV xq yq) ∧ ∃ p : Regrown, w'' = grow (redrawn W p.d) p.os := fun d os => Calls.regrown_of (rq _)
  have c2 : ∀ d os, Calls Tryd.prog 61 #[.int .i64 1000000000, .int .i64 p, .int .i64 1] (grow (redrawn W d) os) fun e w'' => e = .returned (spV xp yp) ∧ ∃ p : Regrown, w'' = grow (redrawn W p.d) p.os := fun d os => Calls.regrown_of (rp _)
  refine QT.region 10 (by kernel_rfl) (by kernel_rfl) ?_
  simp only [List.take, List.drop]
  repeat (quiet_step (fail))
  quiet_step (exact c1 _ _)
  repeat (quiet_step (fail))
  quiet_step (exact c2 _ _)
  repeat (quiet_step (fail))
  refine wpQuiet_nil ?_
  rintro _ ⟨p', rfl⟩
  have B2 := below_regrown W p'.d p'.os
  generalize grow (redrawn W p'.d) p'.os = V at *
  obtain ⟨e0, e1, i0, i1⟩ := R.kept B2
  replace B := below1 B B2
  clear B2 c1 c2 k0 k1 X rp rq
  go_wp2
  refine bodyPost_ret (v := .agg #[.int .i64 (xq), .int .i64 (min yp 1000000000)]) (by simp [results, Tryd.results54, go_sem, *]) rfl ⟨by rw [E1.out, E2.out], ?_⟩
  exact below_set2 B (by omega) _ _
theorem arcOfHalves_any (h : Int) (w : World) (h0 : 0 ≤ h) (h1 : h ≤ 32400000) :
    Calls Tryd.prog 53 #[.int .i64 h] w fun e w' => e = .returned (spV (SI.aL h) (SI.aH h)) ∧ Below w.heap.size w w' := by
  go_enter Tryd.func53, Tryd.ntmps53
  go_wp2_with fail
  refine (NW.roundDown_any _ _ _ (by omega) (by omega) (by omega) (by omega)).mono ?_
  rintro e w' ⟨rfl, rfl⟩
  go_wp2_with fail
  refine (NW.roundUp_any _ _ _ (by omega) (by omega) (by omega) (by omega)).mono ?_
  rintro e w' ⟨rfl, rfl⟩
  go_wp2
  refine bodyPost_ret (v := .agg #[.int .i64 (SI.aL h), .int .i64 (SI.aH h)]) (by simp [results, Tryd.results53, go_sem, SI.aL, SI.aH]) rfl ⟨rfl, ?_⟩
  exact below_new _ _
theorem about_any (l h : Int) (w : World) (l0 : -30000000000 ≤ l) (l1 : l ≤ 30000000000) (h0 : -30000000000 ≤ h) (h1 : h ≤ 30000000000) :
    Calls Tryd.prog 31 #[spV l h] w fun e w' => e = .returned (spV (-h) (-l)) ∧ Below w.heap.size w w' :=
  (about_eq l h w l0 l1 h0 h1).mono fun _ _ ⟨a, b⟩ => ⟨a, b ▸ below_new2 w _ _⟩
theorem sineAbove_low (h : Int) (w : World) (h0 : 0 ≤ h) (h1 : h ≤ 64800000) :
    Calls Tryd.prog 42 #[.int .i64 h] w fun e w' => e = .returned (spV (SI.quL h) (SI.quH h)) ∧ Below w.heap.size w w' := by
  by_cases z0 : h = 0
  · subst z0
    go_enter Tryd.func42, Tryd.ntmps42
    go_wp2
    refine bodyPost_ret (v := .agg #[.int .i64 (0), .int .i64 (0)]) (by simp [results, Tryd.results42, go_sem, *]) rfl ⟨rfl, ?_⟩
    exact below_new _ _
  · by_cases z1 : h = 21600000
    · subst z1
      go_enter Tryd.func42, Tryd.ntmps42
      go_wp2
      refine bodyPost_ret (v := .agg #[.int .i64 (500000000), .int .i64 (500000000)]) (by simp [results, Tryd.results42, go_sem, *]) rfl ⟨rfl, ?_⟩
      exact below_new _ _
    · by_cases z2 : h = 64800000
      · subst z2
        go_enter Tryd.func42, Tryd.ntmps42
        go_wp2
        refine bodyPost_ret (v := .agg #[.int .i64 (1000000000), .int .i64 (1000000000)]) (by simp [results, Tryd.results42, go_sem, *]) rfl ⟨rfl, ?_⟩
        exact below_new _ _
      · have e0 : (h == 0) = false := by simp; omega
        have e1 : (h == 21600000) = false := by simp; omega
        have e2 : (h == 64800000) = false := by simp; omega
        by_cases z3 : h ≤ 32400000
        · rw [show SI.quL h = SI.smL h by unfold SI.quL; rw [if_neg z0, if_neg z1, if_neg z2, if_pos z3], show SI.quH h = SI.smH h by unfold SI.quH; rw [if_neg z0, if_neg z1, if_neg z2, if_pos z3]]
          have A := fun w => arcOfHalves_any h w h0 z3
          have A2 := fun w => sineByArc_any h w h0 z3
          generalize SI.smL h = p at *
          generalize SI.smH h = q at *
          generalize SI.aL h = pa at *
          generalize SI.aH h = qa at *
          go_enter Tryd.func42, Tryd.ntmps42
          go_wp2_with fail
          refine (A _).mono ?_
          rintro e w1 ⟨rfl, B1⟩
          have D1 := (Box.new w 0 0 26).kept B1
          have C1 := below1 (below_new w (.cells #[.int .i64 0, .int .i64 0] 26)) B1
          go_wp2_with fail
          refine (A2 _).mono ?_
          rintro e w2 ⟨rfl, B2⟩
          have D2 := D1.kept B2
          have C2 := below1 C1 B2
          obtain ⟨c0, c1, f0, f1⟩ := D2
          go_wp2
          refine bodyPost_ret (v := .agg #[.int .i64 (p), .int .i64 (q)]) (by simp [results, Tryd.results42, go_sem, *]) rfl ⟨rfl, ?_⟩
          exact below_set2 C2 (Nat.le_refl _) _ _
        · rw [show SI.quL h = SI.nrL (64800000 - h) by unfold SI.quL; rw [if_neg z0, if_neg z1, if_neg z2, if_neg z3], show SI.quH h = SI.nrH (64800000 - h) by unfold SI.quH; rw [if_neg z0, if_neg z1, if_neg z2, if_neg z3]]
          have A := fun w => arcOfHalves_any (64800000 - h) w (by omega) (by omega)
          have A2 := fun w => cosByArc_any (64800000 - h) w (by omega) (by omega)
          generalize SI.nrL (64800000 - h) = p at *
          generalize SI.nrH (64800000 - h) = q at *
          generalize SI.aL (64800000 - h) = pa at *
          generalize SI.aH (64800000 - h) = qa at *
          go_enter Tryd.func42, Tryd.ntmps42
          go_wp2_with fail
          refine (A _).mono ?_
          rintro e w1 ⟨rfl, B1⟩
          have D1 := (Box.new w 0 0 26).kept B1
          have C1 := below1 (below_new w (.cells #[.int .i64 0, .int .i64 0] 26)) B1
          go_wp2_with fail
          refine (A2 _).mono ?_
          rintro e w2 ⟨rfl, B2⟩
          have D2 := D1.kept B2
          have C2 := below1 C1 B2
          obtain ⟨c0, c1, f0, f1⟩ := D2
          go_wp2
          refine bodyPost_ret (v := .agg #[.int .i64 (p), .int .i64 (q)]) (by simp [results, Tryd.results42, go_sem, *]) rfl ⟨rfl, ?_⟩
          exact below_set2 C2 (Nat.le_refl _) _ _
theorem sineAbove_high (h : Int) (w : World) (h0 : 0 ≤ h) (h1 : h < 64800000) :
    Calls Tryd.prog 42 #[.int .i64 (129600000 - h)] w fun e w' => e = .returned (spV (SI.quL h) (SI.quH h)) ∧ Below w.heap.size w w' := by
  by_cases z0 : h = 0
  · subst z0
    go_enter Tryd.func42, Tryd.ntmps42
    go_wp2
    refine bodyPost_ret (v := .agg #[.int .i64 (0), .int .i64 (0)]) (by simp [results, Tryd.results42, go_sem, *]) rfl ⟨rfl, ?_⟩
    exact below_new _ _
  · by_cases z1 : h = 21600000
    · subst z1
      go_enter Tryd.func42, Tryd.ntmps42
      go_wp2
      refine bodyPost_ret (v := .agg #[.int .i64 (500000000), .int .i64 (500000000)]) (by simp [results, Tryd.results42, go_sem, *]) rfl ⟨rfl, ?_⟩
      exact below_new _ _
    · have back : 129600000 - (129600000 - h) = h := by omega
      have z2 : ¬ h = 64800000 := by omega
      have e0 : (h == 0) = false := by simp; omega
      have e1 : (h == 21600000) = false := by simp; omega
      have e2 : (h == 64800000) = false := by simp; omega
      by_cases z3 : h ≤ 32400000
      · rw [show SI.quL h = SI.smL h by unfold SI.quL; rw [if_neg z0, if_neg z1, if_neg z2, if_pos z3], show SI.quH h = SI.smH h by unfold SI.quH; rw [if_neg z0, if_neg z1, if_neg z2, if_pos z3]]
        have A := fun w => arcOfHalves_any h w h0 z3
        have A2 := fun w => sineByArc_any h w h0 z3
        generalize SI.smL h = p at *
        generalize SI.smH h = q at *
        generalize SI.aL h = pa at *
        generalize SI.aH h = qa at *
        go_enter Tryd.func42, Tryd.ntmps42
        go_wp2_with fail
        refine (A _).mono ?_
        rintro e w1 ⟨rfl, B1⟩
        have D1 := (Box.new w 0 0 26).kept B1
        have C1 := below1 (below_new w (.cells #[.int .i64 0, .int .i64 0] 26)) B1
        go_wp2_with fail
        refine (A2 _).mono ?_
        rintro e w2 ⟨rfl, B2⟩
        have D2 := D1.kept B2
        have C2 := below1 C1 B2
        obtain ⟨c0, c1, f0, f1⟩ := D2
        go_wp2
        refine bodyPost_ret (v := .agg #[.int .i64 (p), .int .i64 (q)]) (by simp [results, Tryd.results42, go_sem, *]) rfl ⟨rfl, ?_⟩
        exact below_set2 C2 (Nat.le_refl _) _ _
      · rw [show SI.quL h = SI.nrL (64800000 - h) by unfold SI.quL; rw [if_neg z0, if_neg z1, if_neg z2, if_neg z3], show SI.quH h = SI.nrH (64800000 - h) by unfold SI.quH; rw [if_neg z0, if_neg z1, if_neg z2, if_neg z3]]
        have A := fun w => arcOfHalves_any (64800000 - h) w (by omega) (by omega)
        have A2 := fun w => cosByArc_any (64800000 - h) w (by omega) (by omega)
        generalize SI.nrL (64800000 - h) = p at *
        generalize SI.nrH (64800000 - h) = q at *
        generalize SI.aL (64800000 - h) = pa at *
        generalize SI.aH (64800000 - h) = qa at *
        go_enter Tryd.func42, Tryd.ntmps42
        go_wp2_with fail
        refine (A _).mono ?_
        rintro e w1 ⟨rfl, B1⟩
        have D1 := (Box.new w 0 0 26).kept B1
        have C1 := below1 (below_new w (.cells #[.int .i64 0, .int .i64 0] 26)) B1
        go_wp2_with fail
        refine (A2 _).mono ?_
        rintro e w2 ⟨rfl, B2⟩
        have D2 := D1.kept B2
        have C2 := below1 C1 B2
        obtain ⟨c0, c1, f0, f1⟩ := D2
        go_wp2
        refine bodyPost_ret (v := .agg #[.int .i64 (p), .int .i64 (q)]) (by simp [results, Tryd.results42, go_sem, *]) rfl ⟨rfl, ?_⟩
        exact below_set2 C2 (Nat.le_refl _) _ _
theorem sineAbove_any (h : Int) (w : World) (h0 : 0 ≤ h) (h1 : h ≤ 129600000) :
    Calls Tryd.prog 42 #[.int .i64 h] w fun e w' => e = .returned (spV (SI.haL h) (SI.haH h)) ∧ Below w.heap.size w w' := by
  by_cases z : 64800000 < h
  · rw [show SI.haL h = SI.quL (129600000 - h) from if_pos z, show SI.haH h = SI.quH (129600000 - h) from if_pos z]
    have := sineAbove_high (129600000 - h) w (by omega) (by omega)
    rwa [show 129600000 - (129600000 - h) = h by omega] at this
  · rw [show SI.haL h = SI.quL h from if_neg z, show SI.haH h = SI.quH h from if_neg z]
    exact sineAbove_low h w h0 (by omega)
theorem sineOfHalves_any (h : Int) (w : World) (h0 : -3000000000000 ≤ h) (h1 : h ≤ 3000000000000) :
    Calls Tryd.prog 22 #[.int .i64 h] w fun e w' => e = .returned (spV (SI.siL h) (SI.siH h)) ∧ Below w.heap.size w w' := by
  have m := mod_eq h
  have b0 : 0 ≤ h % 259200000 := Int.emod_nonneg _ (by decide)
  have b1 : h % 259200000 < 259200000 := Int.emod_lt_of_pos _ (by decide)
  have db : -1000000 ≤ NM.down h 259200000 ∧ NM.down h 259200000 ≤ 1000000 := by unfold NM.down; omega
  obtain ⟨db0, db1⟩ := db
  have DN := fun w => NW.roundDown_any h 259200000 w (by omega) (by omega) (by omega) (by omega)
  by_cases z : 129600000 ≤ h % 259200000
  · rw [show SI.siL h = -SI.haH (h % 259200000 - 129600000) from if_pos z, show SI.siH h = -SI.haL (h % 259200000 - 129600000) from if_pos z]
    obtain ⟨_, ⟨F1, F2, F3, F4⟩, F5⟩ := SI.ha_enc (h := h % 259200000 - 129600000) (by omega) (by omega)
    have A := fun w => sineAbove_any (h % 259200000 - 129600000) w (by omega) (by omega)
    generalize SI.haL (h % 259200000 - 129600000) = p at *
    generalize SI.haH (h % 259200000 - 129600000) = q at *
    have A2 := fun w => about_any p q w (by omega) (by omega) (by omega) (by omega)
    generalize h % 259200000 = g at *
    generalize NM.down h 259200000 = dn at *
    go_enter Tryd.func22, Tryd.ntmps22
    go_wp2_with fail
    refine (DN _).mono ?_
    rintro e w' ⟨rfl, rfl⟩
    clear DN
    go_wp2_with fail
    refine (A _).mono ?_
    rintro e w2 ⟨rfl, B2⟩
    have D2 := (Box.new w 0 0 26).kept B2
    have C2 := below1 (below_new w (.cells #[.int .i64 0, .int .i64 0] 26)) B2
    go_wp2_with fail
    refine (A2 _).mono ?_
    rintro e w3 ⟨rfl, B3⟩
    have D3 := D2.kept B3
    have C3 := below1 C2 B3
    obtain ⟨c0, c1, f0, f1⟩ := D3
    go_wp2
    refine bodyPost_ret (v := .agg #[.int .i64 (-q), .int .i64 (-p)]) (by simp [results, Tryd.results22, go_sem, *]) rfl ⟨rfl, ?_⟩
    exact below_set2 C3 (Nat.le_refl _) _ _
  · rw [show SI.siL h = SI.haL (h % 259200000) from if_neg z, show SI.siH h = SI.haH (h % 259200000) from if_neg z]
    have A := fun w => sineAbove_any (h % 259200000) w (by omega) (by omega)
    generalize SI.haL (h % 259200000) = p at *
    generalize SI.haH (h % 259200000) = q at *
    generalize h % 259200000 = g at *
    generalize NM.down h 259200000 = dn at *
    go_enter Tryd.func22, Tryd.ntmps22
    go_wp2_with fail
    refine (DN _).mono ?_
    rintro e w' ⟨rfl, rfl⟩
    clear DN
    go_wp2_with fail
    refine (A _).mono ?_
    rintro e w2 ⟨rfl, B2⟩
    have D2 := (Box.new w 0 0 26).kept B2
    have C2 := below1 (below_new w (.cells #[.int .i64 0, .int .i64 0] 26)) B2
    obtain ⟨c0, c1, f0, f1⟩ := D2
    go_wp2
    refine bodyPost_ret (v := .agg #[.int .i64 (p), .int .i64 (q)]) (by simp [results, Tryd.results22, go_sem, *]) rfl ⟨rfl, ?_⟩
    exact below_set2 C2 (Nat.le_refl _) _ _
theorem isOk_any (a : Int) (w : World) : Calls Tryd.prog 21 #[.int .i64 a] w fun e w' => e = .returned (.bool (okA a)) ∧ w' = w := by
  by_cases h1 : -1000000000000 ≤ a
  · by_cases h2 : a ≤ 1000000000000
    · have H : Hid (true = okA a) := (okA_mk h1 h2).symm
      go_enter Tryd.func21, Tryd.ntmps21
      go_wp2
      go_ret
      exact ⟨NW.ret_bool H.out, rfl⟩
    · have H : Hid (false = okA a) := (okA_mkno (fun c => h2 c.2)).symm
      go_enter Tryd.func21, Tryd.ntmps21
      go_wp2
      go_ret
      exact ⟨NW.ret_bool H.out, rfl⟩
  · have H : Hid (false = okA a) := (okA_mkno (fun c => h1 c.1)).symm
    go_enter Tryd.func21, Tryd.ntmps21
    go_wp2
    go_ret
    exact ⟨NW.ret_bool H.out, rfl⟩
end SK
end Go.Proofs.YtiidbbnclhknpaaDoor
