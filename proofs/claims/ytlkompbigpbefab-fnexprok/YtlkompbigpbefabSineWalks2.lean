/-
  What the specification's functions of chapter 12 return: sines of all angles.
-/
import Derived.Test.YtlkompbigpbefabSineWalks
import Derived.Test.YtlkompbigpbefabSpanMath
namespace Go.Proofs.Ytlkompbigpbefab
open Go.RowKit Go.Sort
set_option linter.unusedVariables false
namespace SK
set_option maxHeartbeats 4000000 in
theorem l12Small_any (h : Int) (w : World) (h0 : 0 ≤ h) (h1 : h ≤ 32400000) :
    Calls Try.prog 97 #[.int .i64 h] w fun e w' => e = .returned (spV (SI.smL h) (SI.smH h)) ∧ Below w.heap.size w w' := by
  obtain ⟨a0, a1, a2, _⟩ := SI.arc_bd h0 h1
  have E1 : Hide (SI.smL h = max (SI.row 21 (SI.aL h) (SI.aL h) (SI.aL h) (SI.aL h) true (SI.aL h) 2).1 0) := ⟨rfl⟩
  have E2 : Hide (SI.smH h = (SI.row 21 (SI.aH h) (SI.aH h) (SI.aH h) (SI.aH h) true (SI.aH h) 2).2) := ⟨rfl⟩
  have A := fun w => l12Arc_any h w h0 h1
  generalize SI.aL h = p at *
  generalize SI.aH h = q at *
  have rp := fun w => l12Row_any p p 2 (by omega) (by omega) (by omega) (by omega) (by omega) (by omega) w
  have rq := fun w => l12Row_any q q 2 (by omega) (by omega) (by omega) (by omega) (by omega) (by omega) w
  generalize SI.row 21 p p p p true p 2 = Rp at *
  obtain ⟨xp, yp⟩ := Rp
  generalize SI.row 21 q q q q true q 2 = Rq at *
  obtain ⟨xq, yq⟩ := Rq
  simp only [] at *
  go_enter Try.func97, Try.ntmps97
  go_wp2_with fail
  refine (A _).mono ?_
  rintro e w1 ⟨rfl, B1⟩
  have R := ((Box.new w 0 0 58).kept B1).alloc (.cells #[.int .i64 p, .int .i64 q] 58)
  have X := Box.new w1 p q 58
  have B := below1 (below1 (below_new w (.cells #[.int .i64 0, .int .i64 0] 58)) B1) (below_new w1 (.cells #[.int .i64 p, .int .i64 q] 58))
  go_wp2_with fail
  generalize (w1.alloc (.cells #[.int .i64 p, .int .i64 q] 58)) = W at *
  have fl0 := field0
  have fl1 := field1
  have k0 := cell_regrown X.c0
  have k1 := cell_regrown X.c1
  have c1 : ∀ d os, Calls Try.prog 100 #[.int .i64 p, .int .i64 p, .int .i64 2] (grow (redrawn W d) os) fun e w'' => e = .returned (spV xp yp) ∧ ∃ p : Regrown, w'' = grow (redrawn W p.d) p.os := fun d os => Calls.regrown_of (rp _)
  have c2 : ∀ d os, Calls Try.prog 100 #[.int .i64 q, .int .i64 q, .int .i64 2] (grow (redrawn W d) os) fun e w'' => e = .returned (spV xq yq) ∧ ∃ p : Regrown, w'' = grow (redrawn W p.d) p.os := fun d os => Calls.regrown_of (rq _)
  refine QT.region 14 (by kernel_rfl) (by kernel_rfl) ?_
  simp only [List.take, List.drop]
  repeat (quiet_step (fail))
  quiet_step (exact c1 _ _)
  repeat (quiet_step (fail))
  quiet_step (exact c2 _ _)
  repeat (quiet_step (fail))
  refine wpQuiet_nil ?_
  rintro _ ⟨p', rfl⟩
  have B2 := below_regrown W p'.d p'.os
  generalize grow (redrawn W p'.d) p'.os = V at *
  obtain ⟨e0, e1, i0, i1⟩ := R.kept B2
  replace B := below1 B B2
  clear B2 c1 c2 k0 k1 X rp rq
  go_wp2
  refine bodyPost_ret (v := .agg #[.int .i64 (max xp 0), .int .i64 (yq)]) (by simp [results, Try.results97, go_sem, *]) rfl ⟨by rw [E1.out, E2.out], ?_⟩
  exact below_set2 B (by omega) _ _
set_option maxHeartbeats 4000000 in
theorem l12Near_any (h : Int) (w : World) (h0 : 0 ≤ h) (h1 : h ≤ 32400000) :
    Calls Try.prog 98 #[.int .i64 h] w fun e w' => e = .returned (spV (SI.nrL h) (SI.nrH h)) ∧ Below w.heap.size w w' := by
  obtain ⟨a0, a1, a2, _⟩ := SI.arc_bd h0 h1
  have E1 : Hide (SI.nrL h = (SI.row 21 1000000000 1000000000 1000000000 1000000000 true (SI.aH h) 1).1) := ⟨rfl⟩
  have E2 : Hide (SI.nrH h = min (SI.row 21 1000000000 1000000000 1000000000 1000000000 true (SI.aL h) 1).2 1000000000) := ⟨rfl⟩
  have A := fun w => l12Arc_any h w h0 h1
  generalize SI.aL h = p at *
  generalize SI.aH h = q at *
  have rq := fun w => l12Row_any 1000000000 q 1 (by omega) (by omega) (by omega) (by omega) (by omega) (by omega) w
  have rp := fun w => l12Row_any 1000000000 p 1 (by omega) (by omega) (by omega) (by omega) (by omega) (by omega) w
  generalize SI.row 21 1000000000 1000000000 1000000000 1000000000 true q 1 = Rq at *
  obtain ⟨xq, yq⟩ := Rq
  generalize SI.row 21 1000000000 1000000000 1000000000 1000000000 true p 1 = Rp at *
  obtain ⟨xp, yp⟩ := Rp
  simp only [] at *
  go_enter Try.func98, Try.ntmps98
  go_wp2_with fail
  refine (A _).mono ?_
  rintro e w1 ⟨rfl, B1⟩
  have R := ((Box.new w 0 0 58).kept B1).alloc (.cells #[.int .i64 p, .int .i64 q] 58)
  have X := Box.new w1 p q 58
  have B := below1 (below1 (below_new w (.cells #[.int .i64 0, .int .i64 0] 58)) B1) (below_new w1 (.cells #[.int .i64 p, .int .i64 q] 58))
  go_wp2_with fail
  generalize (w1.alloc (.cells #[.int .i64 p, .int .i64 q] 58)) = W at *
  have fl0 := field0
  have fl1 := field1
  have k0 := cell_regrown X.c0
  have k1 := cell_regrown X.c1
  have c1 : ∀ d os, Calls Try.prog 100 #[.int .i64 1000000000, .int .i64 q, .int .i64 1] (grow (redrawn W d) os) fun e w'' => e = .returned (spV xq yq) ∧ ∃ p : Regrown, w'' = grow (redrawn W p.d) p.os := fun d os => Calls.regrown_of (rq _)
  have c2 : ∀ d os, Calls Try.prog 100 #[.int .i64 1000000000, .int .i64 p, .int .i64 1] (grow (redrawn W d) os) fun e w'' => e = .returned (spV xp yp) ∧ ∃ p : Regrown, w'' = grow (redrawn W p.d) p.os := fun d os => Calls.regrown_of (rp _)
  refine QT.region 10 (by kernel_rfl) (by kernel_rfl) ?_
  simp only [List.take, List.drop]
  repeat (quiet_step (fail))
  quiet_step (exact c1 _ _)
  repeat (quiet_step (fail))
  quiet_step (exact c2 _ _)
  repeat (quiet_step (fail))
  refine wpQuiet_nil ?_
  rintro _ ⟨p', rfl⟩
  have B2 := below_regrown W p'.d p'.os
  generalize grow (redrawn W p'.d) p'.os = V at *
  obtain ⟨e0, e1, i0, i1⟩ := R.kept B2
  replace B := below1 B B2
  clear B2 c1 c2 k0 k1 X rp rq
  go_wp2
  refine bodyPost_ret (v := .agg #[.int .i64 (xq), .int .i64 (min yp 1000000000)]) (by simp [results, Try.results98, go_sem, *]) rfl ⟨by rw [E1.out, E2.out], ?_⟩
  exact below_set2 B (by omega) _ _
/-- A sine's angle is told. -/
def okA (a : Int) : Bool := NM.inB a (-1000000000000) 1000000000000
theorem okA_of {a : Int} (h : okA a = true) : -1000000000000 ≤ a ∧ a ≤ 1000000000000 := of_decide_eq_true h
theorem okA_no {a : Int} (h : okA a = false) : ¬ (-1000000000000 ≤ a ∧ a ≤ 1000000000000) := of_decide_eq_false h
theorem okA_mk {a : Int} (h1 : -1000000000000 ≤ a) (h2 : a ≤ 1000000000000) : okA a = true := decide_eq_true ⟨h1, h2⟩
theorem okA_mkno {a : Int} (h : ¬ (-1000000000000 ≤ a ∧ a ≤ 1000000000000)) : okA a = false := decide_eq_false h
/-- An angle of an eighth of a turn at most. -/
def okE (a : Int) : Bool := NM.inB a (-16200000) 16200000
theorem okE_of {a : Int} (h : okE a = true) : -16200000 ≤ a ∧ a ≤ 16200000 := of_decide_eq_true h
theorem okE_no {a : Int} (h : okE a = false) : ¬ (-16200000 ≤ a ∧ a ≤ 16200000) := of_decide_eq_false h
/-- The arc of an angle. -/
def arL (a : Int) : Int := if a < 0 then -SI.aH (-2 * a) else SI.aL (2 * a)
def arH (a : Int) : Int := if a < 0 then -SI.aL (-2 * a) else SI.aH (2 * a)
theorem mod_eq (h : Int) : h - NM.down h 259200000 * 259200000 = h % 259200000 := by unfold NM.down; omega
theorem l12Quart_any (h : Int) (w : World) (h0 : 0 ≤ h) (h1 : h ≤ 64800000) :
    Calls Try.prog 96 #[.int .i64 h] w fun e w' => e = .returned (spV (SI.quL h) (SI.quH h)) ∧ Below w.heap.size w w' := by
  by_cases z0 : h = 0
  · subst z0
    go_enter Try.func96, Try.ntmps96
    go_wp2
    refine bodyPost_ret (v := .agg #[.int .i64 (0), .int .i64 (0)]) (by simp [results, Try.results96, go_sem, *]) rfl ⟨rfl, ?_⟩
    exact below_new _ _
  · by_cases z1 : h = 21600000
    · subst z1
      go_enter Try.func96, Try.ntmps96
      go_wp2
      refine bodyPost_ret (v := .agg #[.int .i64 (500000000), .int .i64 (500000000)]) (by simp [results, Try.results96, go_sem, *]) rfl ⟨rfl, ?_⟩
      exact below_new _ _
    · by_cases z2 : h = 64800000
      · subst z2
        go_enter Try.func96, Try.ntmps96
        go_wp2
        refine bodyPost_ret (v := .agg #[.int .i64 (1000000000), .int .i64 (1000000000)]) (by simp [results, Try.results96, go_sem, *]) rfl ⟨rfl, ?_⟩
        exact below_new _ _
      · have e0 : (h == 0) = false := by simp; omega
        have e1 : (h == 21600000) = false := by simp; omega
        have e2 : (h == 64800000) = false := by simp; omega
        by_cases z3 : h ≤ 32400000
        · rw [show SI.quL h = SI.smL h by unfold SI.quL; rw [if_neg z0, if_neg z1, if_neg z2, if_pos z3], show SI.quH h = SI.smH h by unfold SI.quH; rw [if_neg z0, if_neg z1, if_neg z2, if_pos z3]]
          have A := fun w => l12Small_any h w h0 z3
          generalize SI.smL h = p at *
          generalize SI.smH h = q at *
          go_enter Try.func96, Try.ntmps96
          go_wp2_with fail
          refine (A _).mono ?_
          rintro e w1 ⟨rfl, B1⟩
          have D1 := (Box.new w 0 0 58).kept B1
          have C1 := below1 (below_new w (.cells #[.int .i64 0, .int .i64 0] 58)) B1
          obtain ⟨c0, c1, f0, f1⟩ := D1
          go_wp2
          refine bodyPost_ret (v := .agg #[.int .i64 (p), .int .i64 (q)]) (by simp [results, Try.results96, go_sem, *]) rfl ⟨rfl, ?_⟩
          exact below_set2 C1 (Nat.le_refl _) _ _
        · rw [show SI.quL h = SI.nrL (64800000 - h) by unfold SI.quL; rw [if_neg z0, if_neg z1, if_neg z2, if_neg z3], show SI.quH h = SI.nrH (64800000 - h) by unfold SI.quH; rw [if_neg z0, if_neg z1, if_neg z2, if_neg z3]]
          have A := fun w => l12Near_any (64800000 - h) w (by omega) (by omega)
          generalize SI.nrL (64800000 - h) = p at *
          generalize SI.nrH (64800000 - h) = q at *
          go_enter Try.func96, Try.ntmps96
          go_wp2_with fail
          refine (A _).mono ?_
          rintro e w1 ⟨rfl, B1⟩
          have D1 := (Box.new w 0 0 58).kept B1
          have C1 := below1 (below_new w (.cells #[.int .i64 0, .int .i64 0] 58)) B1
          obtain ⟨c0, c1, f0, f1⟩ := D1
          go_wp2
          refine bodyPost_ret (v := .agg #[.int .i64 (p), .int .i64 (q)]) (by simp [results, Try.results96, go_sem, *]) rfl ⟨rfl, ?_⟩
          exact below_set2 C1 (Nat.le_refl _) _ _
theorem sOk_yes (l h : Int) (w : World) (l0 : -1073000000 ≤ l) (lh : l ≤ h) (h1 : h ≤ 1073000000) :
    Calls Try.prog 84 #[spV l h] w fun e w' => e = .returned (.bool true) ∧ Below w.heap.size w w' := by
  have e1 : NM.inB l (-1073000000) 1073000000 = true := decide_eq_true ⟨l0, by omega⟩
  have e2 : NM.inB h l 1073000000 = true := decide_eq_true ⟨lh, h1⟩
  go_enter Try.func84, Try.ntmps84
  go_wp2_with fail
  refine (NW.l6In_any _ _ _ _).mono ?_
  rintro e w' ⟨rfl, rfl⟩
  go_wp2_with fail
  refine (NW.l6In_any _ _ _ _).mono ?_
  rintro e w' ⟨rfl, rfl⟩
  go_wp2
  go_ret
  exact ⟨rfl, below_new _ _⟩
theorem sNeg_yes (l h : Int) (w : World) (l0 : -1073000000 ≤ l) (lh : l ≤ h) (h1 : h ≤ 1073000000) :
    Calls Try.prog 54 #[spV l h] w fun e w' => e = .returned (spV (-h) (-l)) ∧ Below w.heap.size w w' := by
  go_enter Try.func54, Try.ntmps54
  go_wp2_with fail
  refine (sOk_yes l h _ l0 lh h1).mono ?_
  rintro e w1 ⟨rfl, B1⟩
  obtain ⟨c0, c1, f0, f1⟩ := ((Box.new w l h 58).alloc (.cells #[.int .i64 0, .int .i64 0] 58)).kept B1
  obtain ⟨d0, d1, g0, g1⟩ := (Box.new2 w (.cells #[.int .i64 l, .int .i64 h] 58) 0 0 58).kept B1
  have B := below1 (below_new2 w _ _) B1
  go_wp2
  refine bodyPost_ret (v := .agg #[.int .i64 (-h), .int .i64 (-l)]) (by simp [results, Try.results54, go_sem, *]) rfl ⟨rfl, ?_⟩
  exact below_set2 B (by omega) _ _
theorem l12Sine_low (h : Int) (w : World) (h0 : 0 ≤ h) (h1 : h < 129600000) :
    Calls Try.prog 88 #[.int .i64 h] w fun e w' => e = .returned (spV (SI.haL h) (SI.haH h)) ∧ Below w.heap.size w w' := by
  have dz : NM.down h 259200000 = 0 := by unfold NM.down; omega
  by_cases z : 64800000 < h
  · rw [show SI.haL h = SI.quL (129600000 - h) from if_pos z, show SI.haH h = SI.quH (129600000 - h) from if_pos z]
    have A := fun w => l12Quart_any (129600000 - h) w (by omega) (by omega)
    generalize SI.quL (129600000 - h) = p at *
    generalize SI.quH (129600000 - h) = q at *
    go_enter Try.func88, Try.ntmps88
    go_wp2_with fail
    refine (NW.l1Down_any _ _ _ (by omega) (by omega) (by omega) (by omega)).mono ?_
    rintro e w' ⟨rfl, rfl⟩
    rw [dz]
    go_wp2_with fail
    refine (A _).mono ?_
    rintro e w2 ⟨rfl, B2⟩
    have D2 := (Box.new w 0 0 58).kept B2
    have C2 := below1 (below_new w (.cells #[.int .i64 0, .int .i64 0] 58)) B2
    obtain ⟨c0, c1, f0, f1⟩ := D2
    go_wp2
    refine bodyPost_ret (v := .agg #[.int .i64 (p), .int .i64 (q)]) (by simp [results, Try.results88, go_sem, *]) rfl ⟨rfl, ?_⟩
    exact below_set2 C2 (Nat.le_refl _) _ _
  · rw [show SI.haL h = SI.quL h from if_neg z, show SI.haH h = SI.quH h from if_neg z]
    have A := fun w => l12Quart_any h w (by omega) (by omega)
    generalize SI.quL h = p at *
    generalize SI.quH h = q at *
    go_enter Try.func88, Try.ntmps88
    go_wp2_with fail
    refine (NW.l1Down_any _ _ _ (by omega) (by omega) (by omega) (by omega)).mono ?_
    rintro e w' ⟨rfl, rfl⟩
    rw [dz]
    go_wp2_with fail
    refine (A _).mono ?_
    rintro e w2 ⟨rfl, B2⟩
    have D2 := (Box.new w 0 0 58).kept B2
    have C2 := below1 (below_new w (.cells #[.int .i64 0, .int .i64 0] 58)) B2
    obtain ⟨c0, c1, f0, f1⟩ := D2
    go_wp2
    refine bodyPost_ret (v := .agg #[.int .i64 (p), .int .i64 (q)]) (by simp [results, Try.results88, go_sem, *]) rfl ⟨rfl, ?_⟩
    exact below_set2 C2 (Nat.le_refl _) _ _
theorem l12Sine_any (h : Int) (w : World) (h0 : -3000000000000 ≤ h) (h1 : h ≤ 3000000000000) :
    Calls Try.prog 88 #[.int .i64 h] w fun e w' => e = .returned (spV (SI.siL h) (SI.siH h)) ∧ Below w.heap.size w w' := by
  have m := mod_eq h
  have b0 : 0 ≤ h % 259200000 := Int.emod_nonneg _ (by decide)
  have b1 : h % 259200000 < 259200000 := Int.emod_lt_of_pos _ (by decide)
  have db : -1000000 ≤ NM.down h 259200000 ∧ NM.down h 259200000 ≤ 1000000 := by unfold NM.down; omega
  obtain ⟨db0, db1⟩ := db
  have DN := fun w => NW.l1Down_any h 259200000 w (by omega) (by omega) (by omega) (by omega)
  by_cases z : 129600000 ≤ h % 259200000
  · rw [show SI.siL h = -SI.haH (h % 259200000 - 129600000) from if_pos z, show SI.siH h = -SI.haL (h % 259200000 - 129600000) from if_pos z]
    obtain ⟨_, ⟨F1, F2, F3, F4⟩, F5⟩ := SI.ha_enc (h := h % 259200000 - 129600000) (by omega) (by omega)
    have A := fun w => l12Sine_low (h % 259200000 - 129600000) w (by omega) (by omega)
    generalize SI.haL (h % 259200000 - 129600000) = p at *
    generalize SI.haH (h % 259200000 - 129600000) = q at *
    have A2 := fun w => sNeg_yes p q w (by omega) (by omega) (by omega)
    generalize h % 259200000 = g at *
    generalize NM.down h 259200000 = dn at *
    go_enter Try.func88, Try.ntmps88
    go_wp2_with fail
    refine (DN _).mono ?_
    rintro e w' ⟨rfl, rfl⟩
    clear DN
    go_wp2_with fail
    refine (A _).mono ?_
    rintro e w2 ⟨rfl, B2⟩
    have D2 := (Box.new w 0 0 58).kept B2
    have C2 := below1 (below_new w (.cells #[.int .i64 0, .int .i64 0] 58)) B2
    go_wp2_with fail
    refine (A2 _).mono ?_
    rintro e w3 ⟨rfl, B3⟩
    have D3 := D2.kept B3
    have C3 := below1 C2 B3
    obtain ⟨c0, c1, f0, f1⟩ := D3
    go_wp2
    refine bodyPost_ret (v := .agg #[.int .i64 (-q), .int .i64 (-p)]) (by simp [results, Try.results88, go_sem, *]) rfl ⟨rfl, ?_⟩
    exact below_set2 C3 (Nat.le_refl _) _ _
  · rw [show SI.siL h = SI.haL (h % 259200000) from if_neg z, show SI.siH h = SI.haH (h % 259200000) from if_neg z]
    by_cases y : 64800000 < h % 259200000
    · rw [show SI.haL (h % 259200000) = SI.quL (129600000 - h % 259200000) from if_pos y, show SI.haH (h % 259200000) = SI.quH (129600000 - h % 259200000) from if_pos y]
      have A := fun w => l12Quart_any (129600000 - h % 259200000) w (by omega) (by omega)
      generalize SI.quL (129600000 - h % 259200000) = p at *
      generalize SI.quH (129600000 - h % 259200000) = q at *
      generalize h % 259200000 = g at *
      generalize NM.down h 259200000 = dn at *
      go_enter Try.func88, Try.ntmps88
      go_wp2_with fail
      refine (DN _).mono ?_
      rintro e w' ⟨rfl, rfl⟩
      clear DN
      go_wp2_with fail
      refine (A _).mono ?_
      rintro e w2 ⟨rfl, B2⟩
      have D2 := (Box.new w 0 0 58).kept B2
      have C2 := below1 (below_new w (.cells #[.int .i64 0, .int .i64 0] 58)) B2
      obtain ⟨c0, c1, f0, f1⟩ := D2
      go_wp2
      refine bodyPost_ret (v := .agg #[.int .i64 (p), .int .i64 (q)]) (by simp [results, Try.results88, go_sem, *]) rfl ⟨rfl, ?_⟩
      exact below_set2 C2 (Nat.le_refl _) _ _
    · rw [show SI.haL (h % 259200000) = SI.quL (h % 259200000) from if_neg y, show SI.haH (h % 259200000) = SI.quH (h % 259200000) from if_neg y]
      have A := fun w => l12Quart_any (h % 259200000) w (by omega) (by omega)
      generalize SI.quL (h % 259200000) = p at *
      generalize SI.quH (h % 259200000) = q at *
      generalize h % 259200000 = g at *
      generalize NM.down h 259200000 = dn at *
      go_enter Try.func88, Try.ntmps88
      go_wp2_with fail
      refine (DN _).mono ?_
      rintro e w' ⟨rfl, rfl⟩
      clear DN
      go_wp2_with fail
      refine (A _).mono ?_
      rintro e w2 ⟨rfl, B2⟩
      have D2 := (Box.new w 0 0 58).kept B2
      have C2 := below1 (below_new w (.cells #[.int .i64 0, .int .i64 0] 58)) B2
      obtain ⟨c0, c1, f0, f1⟩ := D2
      go_wp2
      refine bodyPost_ret (v := .agg #[.int .i64 (p), .int .i64 (q)]) (by simp [results, Try.results88, go_sem, *]) rfl ⟨rfl, ?_⟩
      exact below_set2 C2 (Nat.le_refl _) _ _
theorem l11Ok_any (a : Int) (w : World) : Calls Try.prog 87 #[.int .i64 a] w fun e w' => e = .returned (.bool (okA a)) ∧ w' = w := by
  go_enter Try.func87, Try.ntmps87
  go_wp2_with fail
  refine (NW.l6In_any _ _ _ _).mono ?_
  rintro e w' ⟨rfl, rfl⟩
  go_wp2
  go_ret
  exact ⟨rfl, rfl⟩
theorem sSineOf_any (a : Int) (w : World) :
    Calls Try.prog 56 #[.int .i64 a] w fun e w' => e = .returned (.tuple #[spV (SM.sel (okA a) (SI.siL (2 * a))) (SM.sel (okA a) (SI.siH (2 * a))), .bool (okA a)]) ∧ Below w.heap.size w w' := by
  have K := fun w => l11Ok_any a w
  cases h : okA a
  · rw [h] at K
    go_enter Try.func56, Try.ntmps56
    go_wp2_with fail
    refine (K _).mono ?_
    rintro e w' ⟨rfl, rfl⟩
    go_wp2
    refine bodyPost_ret (v := .tuple #[.agg #[.int .i64 0, .int .i64 0], .bool false]) (by simp [results, Try.results56, go_sem]) rfl ⟨rfl, below_new _ _⟩
  · rw [h] at K
    obtain ⟨a0, a1⟩ := okA_of h
    simp only [SM.sel]
    have A := fun w => l12Sine_any (2 * a) w (by omega) (by omega)
    generalize SI.siL (2 * a) = p at *
    generalize SI.siH (2 * a) = q at *
    go_enter Try.func56, Try.ntmps56
    go_wp2_with fail
    refine (K _).mono ?_
    rintro e w' ⟨rfl, rfl⟩
    clear K
    go_wp2_with fail
    refine (A _).mono ?_
    rintro e w2 ⟨rfl, B2⟩
    have D2 := (Box.new w 0 0 58).kept B2
    have C2 := below1 (below_new w (.cells #[.int .i64 0, .int .i64 0] 58)) B2
    obtain ⟨c0, c1, f0, f1⟩ := D2
    go_wp2
    refine bodyPost_ret (v := .tuple #[.agg #[.int .i64 (p), .int .i64 (q)], .bool true]) (by simp [results, Try.results56, go_sem, *]) rfl ⟨rfl, ?_⟩
    exact below_set2 C2 (Nat.le_refl _) _ _
end SK
end Go.Proofs.Ytlkompbigpbefab
