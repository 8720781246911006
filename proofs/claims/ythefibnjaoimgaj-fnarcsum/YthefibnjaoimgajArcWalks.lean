/-
  Arcs alone: what both sides' ArcOf return.
-/
import Derived.Test.YthefibnjaoimgajSineKit
import Derived.Test.YthefibnjaoimgajSineArc
import Derived.Test.YthefibnjaoimgajSpanMath
namespace Go.Proofs.Ythefibnjaoimgaj
open Go.RowKit Go.Sort
set_option linter.unusedVariables false
namespace SK
theorem l12Arc_any (h : Int) (w : World) (h0 : 0 ≤ h) (h1 : h ≤ 32400000) :
    Calls Try.prog 14 #[.int .i64 h] w fun e w' => e = .returned (spV (SI.aL h) (SI.aH h)) ∧ Below w.heap.size w w' := by
  go_enter Try.func14, Try.ntmps14
  go_wp2_with fail
  refine (NW.l1Down_any _ _ _ (by omega) (by omega) (by omega) (by omega)).mono ?_
  rintro e w' ⟨rfl, rfl⟩
  go_wp2_with fail
  refine (NW.l1Up_any _ _ _ (by omega) (by omega) (by omega) (by omega)).mono ?_
  rintro e w' ⟨rfl, rfl⟩
  go_wp2
  refine bodyPost_ret (v := .agg #[.int .i64 (SI.aL h), .int .i64 (SI.aH h)]) (by simp [results, Try.results14, go_sem, SI.aL, SI.aH]) rfl ⟨rfl, ?_⟩
  exact below_new _ _
/-- A sine's angle is told. -/
def okA (a : Int) : Bool := NM.inB a (-1000000000000) 1000000000000
theorem okA_of {a : Int} (h : okA a = true) : -1000000000000 ≤ a ∧ a ≤ 1000000000000 := of_decide_eq_true h
theorem okA_no {a : Int} (h : okA a = false) : ¬ (-1000000000000 ≤ a ∧ a ≤ 1000000000000) := of_decide_eq_false h
theorem okA_mk {a : Int} (h1 : -1000000000000 ≤ a) (h2 : a ≤ 1000000000000) : okA a = true := decide_eq_true ⟨h1, h2⟩
theorem okA_mkno {a : Int} (h : ¬ (-1000000000000 ≤ a ∧ a ≤ 1000000000000)) : okA a = false := decide_eq_false h
/-- An angle of an eighth of a turn at most. -/
def okE (a : Int) : Bool := NM.inB a (-16200000) 16200000
theorem okE_of {a : Int} (h : okE a = true) : -16200000 ≤ a ∧ a ≤ 16200000 := of_decide_eq_true h
theorem okE_no {a : Int} (h : okE a = false) : ¬ (-16200000 ≤ a ∧ a ≤ 16200000) := of_decide_eq_false h
/-- The arc of an angle. -/
def arL (a : Int) : Int := if a < 0 then -SI.aH (-2 * a) else SI.aL (2 * a)
def arH (a : Int) : Int := if a < 0 then -SI.aL (-2 * a) else SI.aH (2 * a)
theorem mod_eq (h : Int) : h - NM.down h 259200000 * 259200000 = h % 259200000 := by unfold NM.down; omega
theorem sOk_yes (l h : Int) (w : World) (l0 : -1073000000 ≤ l) (lh : l ≤ h) (h1 : h ≤ 1073000000) :
    Calls Try.prog 19 #[spV l h] w fun e w' => e = .returned (.bool true) ∧ Below w.heap.size w w' := by
  have e1 : NM.inB l (-1073000000) 1073000000 = true := decide_eq_true ⟨l0, by omega⟩
  have e2 : NM.inB h l 1073000000 = true := decide_eq_true ⟨lh, h1⟩
  go_enter Try.func19, Try.ntmps19
  go_wp2_with fail
  refine (NW.l6In_any _ _ _ _).mono ?_
  rintro e w' ⟨rfl, rfl⟩
  go_wp2_with fail
  refine (NW.l6In_any _ _ _ _).mono ?_
  rintro e w' ⟨rfl, rfl⟩
  go_wp2
  go_ret
  exact ⟨rfl, below_new _ _⟩
theorem sNeg_yes (l h : Int) (w : World) (l0 : -1073000000 ≤ l) (lh : l ≤ h) (h1 : h ≤ 1073000000) :
    Calls Try.prog 13 #[spV l h] w fun e w' => e = .returned (spV (-h) (-l)) ∧ Below w.heap.size w w' := by
  go_enter Try.func13, Try.ntmps13
  go_wp2_with fail
  refine (sOk_yes l h _ l0 lh h1).mono ?_
  rintro e w1 ⟨rfl, B1⟩
  obtain ⟨c0, c1, f0, f1⟩ := ((Box.new w l h 25).alloc (.cells #[.int .i64 0, .int .i64 0] 25)).kept B1
  obtain ⟨d0, d1, g0, g1⟩ := (Box.new2 w (.cells #[.int .i64 l, .int .i64 h] 25) 0 0 25).kept B1
  have B := below1 (below_new2 w _ _) B1
  go_wp2
  refine bodyPost_ret (v := .agg #[.int .i64 (-h), .int .i64 (-l)]) (by simp [results, Try.results13, go_sem, *]) rfl ⟨rfl, ?_⟩
  exact below_set2 B (by omega) _ _
theorem sArcOf_any (a : Int) (w : World) :
    Calls Try.prog 5 #[.int .i64 a] w fun e w' => e = .returned (.tuple #[spV (SM.sel (okE a) (arL a)) (SM.sel (okE a) (arH a)), .bool (okE a)]) ∧ Below w.heap.size w w' := by
  have K := fun w => (show Calls Try.prog 12 #[.int .i64 a, .int .i64 (-16200000), .int .i64 16200000] w fun e w' => e = .returned (.bool (okE a)) ∧ w' = w from NW.l6In_any _ _ _ w)
  cases h : okE a
  · rw [h] at K
    go_enter Try.func5, Try.ntmps5
    go_wp2_with fail
    refine (K _).mono ?_
    rintro e w' ⟨rfl, rfl⟩
    go_wp2
    refine bodyPost_ret (v := .tuple #[.agg #[.int .i64 0, .int .i64 0], .bool false]) (by simp [results, Try.results5, go_sem]) rfl ⟨rfl, below_new _ _⟩
  · rw [h] at K
    obtain ⟨a0, a1⟩ := okE_of h
    simp only [SM.sel]
    by_cases z : a < 0
    · rw [show arL a = -SI.aH (-2 * a) from if_pos z, show arH a = -SI.aL (-2 * a) from if_pos z]
      have A := fun w => l12Arc_any (-2 * a) w (by omega) (by omega)
      obtain ⟨p0, p1, p2, _⟩ := SI.arc_bd (h := -2 * a) (by omega) (by omega)
      generalize SI.aL (-2 * a) = p at *
      generalize SI.aH (-2 * a) = q at *
      have A2 := fun w => sNeg_yes p q w (by omega) (by omega) (by omega)
      go_enter Try.func5, Try.ntmps5
      go_wp2_with fail
      refine (K _).mono ?_
      rintro e w' ⟨rfl, rfl⟩
      clear K
      go_wp2_with fail
      refine (A _).mono ?_
      rintro e w2 ⟨rfl, B2⟩
      have D2 := (Box.new w 0 0 25).kept B2
      have C2 := below1 (below_new w (.cells #[.int .i64 0, .int .i64 0] 25)) B2
      go_wp2_with fail
      refine (A2 _).mono ?_
      rintro e w3 ⟨rfl, B3⟩
      have D3 := D2.kept B3
      have C3 := below1 C2 B3
      obtain ⟨c0, c1, f0, f1⟩ := D3
      go_wp2
      refine bodyPost_ret (v := .tuple #[.agg #[.int .i64 (-q), .int .i64 (-p)], .bool true]) (by simp [results, Try.results5, go_sem, *]) rfl ⟨rfl, ?_⟩
      exact below_set2 C3 (Nat.le_refl _) _ _
    · rw [show arL a = SI.aL (2 * a) from if_neg z, show arH a = SI.aH (2 * a) from if_neg z]
      have A := fun w => l12Arc_any (2 * a) w (by omega) (by omega)
      generalize SI.aL (2 * a) = p at *
      generalize SI.aH (2 * a) = q at *
      go_enter Try.func5, Try.ntmps5
      go_wp2_with fail
      refine (K _).mono ?_
      rintro e w' ⟨rfl, rfl⟩
      clear K
      go_wp2_with fail
      refine (A _).mono ?_
      rintro e w2 ⟨rfl, B2⟩
      have D2 := (Box.new w 0 0 25).kept B2
      have C2 := below1 (below_new w (.cells #[.int .i64 0, .int .i64 0] 25)) B2
      obtain ⟨c0, c1, f0, f1⟩ := D2
      go_wp2
      refine bodyPost_ret (v := .tuple #[.agg #[.int .i64 (p), .int .i64 (q)], .bool true]) (by simp [results, Try.results5, go_sem, *]) rfl ⟨rfl, ?_⟩
      exact below_set2 C2 (Nat.le_refl _) _ _
theorem about_eq (l h : Int) (w : World) (l0 : -30000000000 ≤ l) (l1 : l ≤ 30000000000) (h0 : -30000000000 ≤ h) (h1 : h ≤ 30000000000) :
    Calls Try.prog 17 #[spV l h] w fun e w' => e = .returned (spV (-h) (-l)) ∧ w' = (w.alloc (.cells #[.int .i64 l, .int .i64 h] 25)).alloc (.cells #[.int .i64 (-h), .int .i64 (-l)] 25) := by
  go_enter Try.func17, Try.ntmps17
  go_wp2
  refine bodyPost_ret (v := .agg #[.int .i64 (-h), .int .i64 (-l)]) (by simp [results, Try.results17, go_sem]) rfl ⟨rfl, ?_⟩
  rfl
theorem arcOfHalves_any (h : Int) (w : World) (h0 : 0 ≤ h) (h1 : h ≤ 32400000) :
    Calls Try.prog 16 #[.int .i64 h] w fun e w' => e = .returned (spV (SI.aL h) (SI.aH h)) ∧ Below w.heap.size w w' := by
  go_enter Try.func16, Try.ntmps16
  go_wp2_with fail
  refine (NW.roundDown_any _ _ _ (by omega) (by omega) (by omega) (by omega)).mono ?_
  rintro e w' ⟨rfl, rfl⟩
  go_wp2_with fail
  refine (NW.roundUp_any _ _ _ (by omega) (by omega) (by omega) (by omega)).mono ?_
  rintro e w' ⟨rfl, rfl⟩
  go_wp2
  refine bodyPost_ret (v := .agg #[.int .i64 (SI.aL h), .int .i64 (SI.aH h)]) (by simp [results, Try.results16, go_sem, SI.aL, SI.aH]) rfl ⟨rfl, ?_⟩
  exact below_new _ _
theorem about_any (l h : Int) (w : World) (l0 : -30000000000 ≤ l) (l1 : l ≤ 30000000000) (h0 : -30000000000 ≤ h) (h1 : h ≤ 30000000000) :
    Calls Try.prog 17 #[spV l h] w fun e w' => e = .returned (spV (-h) (-l)) ∧ Below w.heap.size w w' :=
  (about_eq l h w l0 l1 h0 h1).mono fun _ _ ⟨a, b⟩ => ⟨a, b ▸ below_new2 w _ _⟩
theorem isE_any (a : Int) (w : World) : Calls Try.prog 15 #[.int .i64 a] w fun e w' => e = .returned (.bool (okE a)) ∧ w' = w := by
  by_cases h1 : -16200000 ≤ a
  · by_cases h2 : a ≤ 16200000
    · have H : Hid (true = okE a) := (decide_eq_true (p := -16200000 ≤ a ∧ a ≤ 16200000) ⟨h1, h2⟩).symm
      go_enter Try.func15, Try.ntmps15
      go_wp2
      go_ret
      exact ⟨NW.ret_bool H.out, rfl⟩
    · have H : Hid (false = okE a) := (decide_eq_false (p := -16200000 ≤ a ∧ a ≤ 16200000) (fun c => h2 c.2)).symm
      go_enter Try.func15, Try.ntmps15
      go_wp2
      go_ret
      exact ⟨NW.ret_bool H.out, rfl⟩
  · have H : Hid (false = okE a) := (decide_eq_false (p := -16200000 ≤ a ∧ a ≤ 16200000) (fun c => h1 c.1)).symm
    go_enter Try.func15, Try.ntmps15
    go_wp2
    go_ret
    exact ⟨NW.ret_bool H.out, rfl⟩
theorem arcOf_any (a : Int) (w : World) :
    Calls Try.prog 6 #[.int .i64 a] w fun e w' => e = .returned (.tuple #[spV (SM.sel (okE a) (arL a)) (SM.sel (okE a) (arH a)), .bool (okE a)]) ∧ Below w.heap.size w w' := by
  have K := fun w => isE_any a w
  cases h : okE a
  · rw [h] at K
    go_enter Try.func6, Try.ntmps6
    go_wp2_with fail
    refine (K _).mono ?_
    rintro e w' ⟨rfl, rfl⟩
    go_wp2
    refine bodyPost_ret (v := .tuple #[.agg #[.int .i64 0, .int .i64 0], .bool false]) (by simp [results, Try.results6, go_sem]) rfl ⟨rfl, below_new _ _⟩
  · rw [h] at K
    obtain ⟨a0, a1⟩ := okE_of h
    simp only [SM.sel]
    by_cases z : a < 0
    · rw [show arL a = -SI.aH (-2 * a) from if_pos z, show arH a = -SI.aL (-2 * a) from if_pos z]
      have A := fun w => arcOfHalves_any (-2 * a) w (by omega) (by omega)
      obtain ⟨p0, p1, p2, _⟩ := SI.arc_bd (h := -2 * a) (by omega) (by omega)
      generalize SI.aL (-2 * a) = p at *
      generalize SI.aH (-2 * a) = q at *
      have A2 := fun w => about_any p q w (by omega) (by omega) (by omega) (by omega)
      go_enter Try.func6, Try.ntmps6
      go_wp2_with fail
      refine (K _).mono ?_
      rintro e w' ⟨rfl, rfl⟩
      clear K
      go_wp2_with fail
      refine (A _).mono ?_
      rintro e w2 ⟨rfl, B2⟩
      have D2 := (Box.new w 0 0 25).kept B2
      have C2 := below1 (below_new w (.cells #[.int .i64 0, .int .i64 0] 25)) B2
      go_wp2_with fail
      refine (A2 _).mono ?_
      rintro e w3 ⟨rfl, B3⟩
      have D3 := D2.kept B3
      have C3 := below1 C2 B3
      obtain ⟨c0, c1, f0, f1⟩ := D3
      go_wp2
      refine bodyPost_ret (v := .tuple #[.agg #[.int .i64 (-q), .int .i64 (-p)], .bool true]) (by simp [results, Try.results6, go_sem, *]) rfl ⟨rfl, ?_⟩
      exact below_set2 C3 (Nat.le_refl _) _ _
    · rw [show arL a = SI.aL (2 * a) from if_neg z, show arH a = SI.aH (2 * a) from if_neg z]
      have A := fun w => arcOfHalves_any (2 * a) w (by omega) (by omega)
      generalize SI.aL (2 * a) = p at *
      generalize SI.aH (2 * a) = q at *
      go_enter Try.func6, Try.ntmps6
      go_wp2_with fail
      refine (K _).mono ?_
      rintro e w' ⟨rfl, rfl⟩
      clear K
      go_wp2_with fail
      refine (A _).mono ?_
      rintro e w2 ⟨rfl, B2⟩
      have D2 := (Box.new w 0 0 25).kept B2
      have C2 := below1 (below_new w (.cells #[.int .i64 0, .int .i64 0] 25)) B2
      obtain ⟨c0, c1, f0, f1⟩ := D2
      go_wp2
      refine bodyPost_ret (v := .tuple #[.agg #[.int .i64 (p), .int .i64 (q)], .bool true]) (by simp [results, Try.results6, go_sem, *]) rfl ⟨rfl, ?_⟩
      exact below_set2 C2 (Nat.le_refl _) _ _
end SK
end Go.Proofs.Ythefibnjaoimgaj
