/-
  What the specification's functions of chapter 13 return: SineBack, CosBack, WayOf, FanHas, FanRound.
-/
import Derived.Test.YtfdkpcejjcifgauDoorBackWalks
namespace Go.Proofs.YtfdkpcejjcifgauDoor
open Go.RowKit Go.Sort
set_option linter.unusedVariables false
namespace SK
/-- A number that may be a sine. -/
def okU (x : Int) : Bool := NM.inB x (-1000000000) 1000000000
theorem okU_of {x : Int} (h : okU x = true) : -1000000000 ≤ x ∧ x ≤ 1000000000 := of_decide_eq_true h
theorem okU_no {x : Int} (h : okU x = false) : ¬ (-1000000000 ≤ x ∧ x ≤ 1000000000) := of_decide_eq_false h
set_option maxHeartbeats 1000000 in
theorem sSineBack_any (x : Int) (w : World) :
    Calls Tryd.prog 13 #[.int .i64 x] w fun e w' => e = .returned (.tuple #[spV (SM.sel (okU x) (SI.sbL x)) (SM.sel (okU x) (SI.sbH x)), .bool (okU x)]) ∧ Below w.heap.size w w' := by
  have K := fun w => (show Calls Tryd.prog 32 #[.int .i64 x, .int .i64 (-1000000000), .int .i64 1000000000] w fun e w' => e = .returned (.bool (okU x)) ∧ w' = w from NW.l6In_any _ _ _ w)
  cases h : okU x
  · rw [h] at K
    go_enter Tryd.func13, Tryd.ntmps13
    go_wp2_with fail
    refine (K _).mono ?_
    rintro e w' ⟨rfl, rfl⟩
    go_wp2
    refine bodyPost_ret (v := .tuple #[.agg #[.int .i64 0, .int .i64 0], .bool false]) (by simp [results, Tryd.results13, go_sem]) rfl ⟨rfl, below_new _ _⟩
  · rw [h] at K
    simp only [SM.sel]
    have A := fun w => half_any true false x 0 0 (-32400000) 32400000 (fun m => decide (SI.siH (2 * m) ≤ x)) (by decide) (by decide) (by decide) (fun m w a b => lessS_any x m false w a b) w
    have C := fun w => half_any true true x 0 0 (-32400000) 32400000 (fun m => decide (SI.siL (2 * m) < x)) (by decide) (by decide) (by decide) (fun m w a b => lessS_any x m true w a b) w
    have E1 : Hide (SI.sbL x = (SI.hv (fun m => decide (SI.siH (2 * m) ≤ x)) 27 (-32400000) 32400000).1) := ⟨rfl⟩
    have E2 : Hide (SI.sbH x = (SI.hv (fun m => decide (SI.siL (2 * m) < x)) 27 (-32400000) 32400000).2) := ⟨rfl⟩
    generalize SI.hv (fun m => decide (SI.siH (2 * m) ≤ x)) 27 (-32400000) 32400000 = P at *
    generalize SI.hv (fun m => decide (SI.siL (2 * m) < x)) 27 (-32400000) 32400000 = Q at *
    obtain ⟨p, q⟩ := P
    obtain ⟨r, t⟩ := Q
    simp only [] at *
    rw [E1.out, E2.out]
    clear E1 E2
    go_enter Tryd.func13, Tryd.ntmps13
    go_wp2_with fail
    refine (K _).mono ?_
    rintro e w' ⟨rfl, rfl⟩
    clear K
    go_wp2_with fail
    refine (A _).mono ?_
    rintro e w1 ⟨rfl, B1⟩
    have X := ((Box.new w 0 0 25).kept B1).alloc (.cells #[.int .i64 p, .int .i64 q] 25)
    have Y := Box.new w1 p q 25
    have B := below1 (below1 (below_new w (.cells #[.int .i64 0, .int .i64 0] 25)) B1) (below_new w1 (.cells #[.int .i64 p, .int .i64 q] 25))
    go_wp2_with fail
    refine (C _).mono ?_
    rintro e w2 ⟨rfl, B2⟩
    obtain ⟨x0, x1, x2, x3⟩ := (X.kept B2).alloc (.cells #[.int .i64 r, .int .i64 t] 25)
    obtain ⟨y0, y1, y2, y3⟩ := (Y.kept B2).alloc (.cells #[.int .i64 r, .int .i64 t] 25)
    replace B := below1 (below1 B B2) (below_new w2 (.cells #[.int .i64 r, .int .i64 t] 25))
    go_wp2
    refine bodyPost_ret (v := .tuple #[.agg #[.int .i64 p, .int .i64 t], .bool true]) (by simp [results, Tryd.results13, go_sem, *]) rfl ⟨rfl, ?_⟩
    exact below_set2 B (Nat.le_refl _) _ _
/-- On which side of an angle a place lies. -/
def sideV (u r m : Int) : Int := if 0 ≤ SI.sdL u r m then 1 else if SI.sdH u r m ≤ 0 then -1 else 0
set_option maxHeartbeats 2000000 in
theorem l13Side_any (u r m : Int) (w : World) (u0 : 0 ≤ u) (u1 : u ≤ 1000000000) (r0 : 0 ≤ r) (r1 : r ≤ 1000000000) (m0 : -32400000 ≤ m) (m1 : m ≤ 32400000) :
    Calls Tryd.prog 69 #[.int .i64 u, .int .i64 r, .int .i64 m] w fun e w' => e = .returned (.int .i64 (sideV u r m)) ∧ Below w.heap.size w w' := by
  have S := fun w => l12Sine_any (2 * m) w (by omega) (by omega)
  have C := fun w => l12Sine_any (2 * m + 64800000) w (by omega) (by omega)
  obtain ⟨_, f1, f2, f3, _⟩ := SI.si_enc (2 * m)
  obtain ⟨_, g1, g2, g3, _⟩ := SI.si_enc (2 * m + 64800000)
  have HV : Hide (sideV u r m = if 0 ≤ NM.down (u * SI.siL (2 * m + 64800000)) 1000000000 - NM.up (r * SI.siH (2 * m)) 1000000000 then 1 else if NM.up (u * SI.siH (2 * m + 64800000)) 1000000000 - NM.down (r * SI.siL (2 * m)) 1000000000 ≤ 0 then -1 else 0) := ⟨rfl⟩
  generalize SI.siL (2 * m + 64800000) = cl at *
  generalize SI.siH (2 * m + 64800000) = ch at *
  generalize SI.siL (2 * m) = sl at *
  generalize SI.siH (2 * m) = sh at *
  have b1 := SM.mul_bd (x := u) (y := cl) (A := 1000000000) (B := 1000000000) (by omega) (by omega) (by omega) (by omega)
  have b2 := SM.mul_bd (x := u) (y := ch) (A := 1000000000) (B := 1000000000) (by omega) (by omega) (by omega) (by omega)
  have b3 := SM.mul_bd (x := r) (y := sl) (A := 1000000000) (B := 1000000000) (by omega) (by omega) (by omega) (by omega)
  have b4 := SM.mul_bd (x := r) (y := sh) (A := 1000000000) (B := 1000000000) (by omega) (by omega) (by omega) (by omega)
  have v1 : IntKind.i64.wrap (u * cl) = u * cl := wrap_id (by omega) (by omega)
  have v2 : IntKind.i64.wrap (u * ch) = u * ch := wrap_id (by omega) (by omega)
  have v3 : IntKind.i64.wrap (r * sl) = r * sl := wrap_id (by omega) (by omega)
  have v4 : IntKind.i64.wrap (r * sh) = r * sh := wrap_id (by omega) (by omega)
  have D1 := fun w => NW.l1Down_any (u * cl) 1000000000 w (by omega) (by omega) (by omega) (by omega)
  have D2 := fun w => NW.l1Up_any (r * sh) 1000000000 w (by omega) (by omega) (by omega) (by omega)
  have D3 := fun w => NW.l1Up_any (u * ch) 1000000000 w (by omega) (by omega) (by omega) (by omega)
  have D4 := fun w => NW.l1Down_any (r * sl) 1000000000 w (by omega) (by omega) (by omega) (by omega)
  have n1 : -1000000001 ≤ NM.down (u * cl) 1000000000 ∧ NM.down (u * cl) 1000000000 ≤ 1000000001 := by unfold NM.down; omega
  have n2 : -1000000001 ≤ NM.up (r * sh) 1000000000 ∧ NM.up (r * sh) 1000000000 ≤ 1000000001 := by unfold NM.up; omega
  have n3 : -1000000001 ≤ NM.up (u * ch) 1000000000 ∧ NM.up (u * ch) 1000000000 ≤ 1000000001 := by unfold NM.up; omega
  have n4 : -1000000001 ≤ NM.down (r * sl) 1000000000 ∧ NM.down (r * sl) 1000000000 ≤ 1000000001 := by unfold NM.down; omega
  generalize NM.down (u * cl) 1000000000 = x1 at *
  generalize NM.up (r * sh) 1000000000 = x2 at *
  generalize NM.up (u * ch) 1000000000 = x3 at *
  generalize NM.down (r * sl) 1000000000 = x4 at *
  have w1 : IntKind.i64.wrap (x1 - x2) = x1 - x2 := wrap_id (by omega) (by omega)
  have w2 : IntKind.i64.wrap (x3 - x4) = x3 - x4 := wrap_id (by omega) (by omega)
  go_enter Tryd.func69, Tryd.ntmps69
  go_wp2_with fail
  refine (S _).mono ?_
  rintro e w3 ⟨rfl, B1⟩
  have X := Box.new w3 sl sh 34
  have B := below1 B1 (below_new w3 (.cells #[.int .i64 sl, .int .i64 sh] 34))
  go_wp2_with fail
  refine (C _).mono ?_
  rintro e w4 ⟨rfl, B2⟩
  replace X := (X.kept B2).alloc (.cells #[.int .i64 cl, .int .i64 ch] 34)
  have Y := Box.new w4 cl ch 34
  replace B := below1 (below1 B B2) (below_new w4 (.cells #[.int .i64 cl, .int .i64 ch] 34))
  clear S C B1 B2
  go_wp2_with fail
  generalize w4.alloc (.cells #[.int .i64 cl, .int .i64 ch] 34) = W0 at *
  have ka0 := cell_regrown X.c0
  have ka1 := cell_regrown X.c1
  have ka2 := cell_regrown Y.c0
  have ka3 := cell_regrown Y.c1
  have ca1 : ∀ d os, Calls Tryd.prog 53 #[.int .i64 (u * cl), .int .i64 1000000000] (grow (redrawn W0 d) os) fun e w'' => e = .returned (.int .i64 x1) ∧ ∃ p : Regrown, w'' = grow (redrawn W0 p.d) p.os := fun d os => Calls.regrown_of ((D1 _).mono fun _ _ ⟨h1, h2⟩ => ⟨h1, h2 ▸ Below.refl _ _⟩)
  have ca2 : ∀ d os, Calls Tryd.prog 57 #[.int .i64 (r * sh), .int .i64 1000000000] (grow (redrawn W0 d) os) fun e w'' => e = .returned (.int .i64 x2) ∧ ∃ p : Regrown, w'' = grow (redrawn W0 p.d) p.os := fun d os => Calls.regrown_of ((D2 _).mono fun _ _ ⟨h1, h2⟩ => ⟨h1, h2 ▸ Below.refl _ _⟩)
  refine wp_region_quiet_below (by kernel_rfl) (by kernel_rfl) ?_
  repeat (quiet_step (fail))
  quiet_step (exact ca1 _ _)
  repeat (quiet_step (fail))
  quiet_step (exact ca2 _ _)
  repeat (quiet_step (fail))
  refine wpQuiet_nil ?_
  rintro _ ⟨pa, rfl⟩
  have Bz := below_regrown W0 pa.d pa.os
  generalize grow (redrawn W0 pa.d) pa.os = Va at *
  replace X := X.kept Bz
  replace Y := Y.kept Bz
  replace B := below1 B Bz
  clear Bz ka0 ka1 ka2 ka3 ca1 ca2
  have kb0 := cell_regrown X.c0
  have kb1 := cell_regrown X.c1
  have kb2 := cell_regrown Y.c0
  have kb3 := cell_regrown Y.c1
  have cb1 : ∀ d os, Calls Tryd.prog 57 #[.int .i64 (u * ch), .int .i64 1000000000] (grow (redrawn Va d) os) fun e w'' => e = .returned (.int .i64 x3) ∧ ∃ p : Regrown, w'' = grow (redrawn Va p.d) p.os := fun d os => Calls.regrown_of ((D3 _).mono fun _ _ ⟨h1, h2⟩ => ⟨h1, h2 ▸ Below.refl _ _⟩)
  have cb2 : ∀ d os, Calls Tryd.prog 53 #[.int .i64 (r * sl), .int .i64 1000000000] (grow (redrawn Va d) os) fun e w'' => e = .returned (.int .i64 x4) ∧ ∃ p : Regrown, w'' = grow (redrawn Va p.d) p.os := fun d os => Calls.regrown_of ((D4 _).mono fun _ _ ⟨h1, h2⟩ => ⟨h1, h2 ▸ Below.refl _ _⟩)
  go_wp2_with fail
  refine wp_region_quiet_below (by kernel_rfl) (by kernel_rfl) ?_
  repeat (quiet_step (fail))
  quiet_step (exact cb1 _ _)
  repeat (quiet_step (fail))
  quiet_step (exact cb2 _ _)
  repeat (quiet_step (fail))
  refine wpQuiet_nil ?_
  rintro _ ⟨pb, rfl⟩
  have Bz := below_regrown Va pb.d pb.os
  generalize grow (redrawn Va pb.d) pb.os = Vb at *
  replace X := X.kept Bz
  replace Y := Y.kept Bz
  replace B := below1 B Bz
  clear Bz kb0 kb1 kb2 kb3 cb1 cb2
  clear D1 D2 D3 D4 b1 b2 b3 b4 v1 v2 v3 v4
  by_cases z1 : 0 ≤ x1 - x2
  · go_wp2
    go_ret
    exact ⟨NW.ret_int (by rw [HV.out, if_pos (by omega)]), B⟩
  · by_cases z2 : x3 - x4 ≤ 0
    · go_wp2
      go_ret
      exact ⟨NW.ret_int (by rw [HV.out, if_neg (by omega), if_pos (by omega)]), B⟩
    · go_wp2
      go_ret
      exact ⟨NW.ret_int (by rw [HV.out, if_neg (by omega), if_neg (by omega)]), B⟩
theorem lessW_any (u r m : Int) (small : Bool) (w : World) (u0 : 0 ≤ u) (u1 : u ≤ 1000000000) (r0 : 0 ≤ r) (r1 : r ≤ 1000000000) (m0 : -32400000 ≤ m) (m1 : m ≤ 32400000) :
    Calls Tryd.prog 58 #[askV false 0 u r small, .int .i64 m] w fun e w' => e = .returned (.bool (match small with | true => decide (0 ≤ SI.sdL u r m ∨ 0 < SI.sdH u r m) | false => decide (0 ≤ SI.sdL u r m))) ∧ Below w.heap.size w w' := by
  have S := fun w => l13Side_any u r m w u0 u1 r0 r1 m0 m1
  have HS : Hide (sideV u r m = if 0 ≤ SI.sdL u r m then 1 else if SI.sdH u r m ≤ 0 then -1 else 0) := ⟨rfl⟩
  generalize SI.sdL u r m = a at *
  generalize SI.sdH u r m = b at *
  rcases (show 0 ≤ a ∨ (¬ 0 ≤ a ∧ b ≤ 0) ∨ (¬ 0 ≤ a ∧ ¬ b ≤ 0) by omega) with z | ⟨z, y⟩ | ⟨z, y⟩
  · have e : sideV u r m = 1 := by rw [HS.out, if_pos z]
    rw [e] at S
    have d1 : decide (0 ≤ a ∨ 0 < b) = true := decide_eq_true (.inl z)
    have d2 : decide (0 ≤ a) = true := decide_eq_true z
    cases small
    all_goals simp only [d1, d2]
    all_goals clear d1 d2
    all_goals go_enter Tryd.func58, Tryd.ntmps58
    all_goals go_wp2_with fail
    all_goals refine (S _).mono ?_
    all_goals rintro e w1 ⟨rfl, B1⟩
    · obtain ⟨a0, a1, a2, a3, a4⟩ := (Ask.new w false false 0 u r 54).kept B1
      go_wp2
      go_ret
      exact ⟨rfl, below1 (below_new _ _) B1⟩
    · obtain ⟨a0, a1, a2, a3, a4⟩ := (Ask.new w false true 0 u r 54).kept B1
      go_wp2
      go_ret
      exact ⟨rfl, below1 (below_new _ _) B1⟩
  · have e : sideV u r m = -1 := by rw [HS.out, if_neg z, if_pos y]
    rw [e] at S
    have d1 : decide (0 ≤ a ∨ 0 < b) = false := decide_eq_false (by omega)
    have d2 : decide (0 ≤ a) = false := decide_eq_false z
    cases small
    all_goals simp only [d1, d2]
    all_goals clear d1 d2
    all_goals go_enter Tryd.func58, Tryd.ntmps58
    all_goals go_wp2_with fail
    all_goals refine (S _).mono ?_
    all_goals rintro e w1 ⟨rfl, B1⟩
    · obtain ⟨a0, a1, a2, a3, a4⟩ := (Ask.new w false false 0 u r 54).kept B1
      go_wp2
      go_ret
      exact ⟨rfl, below1 (below_new _ _) B1⟩
    · obtain ⟨a0, a1, a2, a3, a4⟩ := (Ask.new w false true 0 u r 54).kept B1
      go_wp2
      go_ret
      exact ⟨rfl, below1 (below_new _ _) B1⟩
  · have e : sideV u r m = 0 := by rw [HS.out, if_neg z, if_neg y]
    rw [e] at S
    have d1 : decide (0 ≤ a ∨ 0 < b) = true := decide_eq_true (by omega)
    have d2 : decide (0 ≤ a) = false := decide_eq_false z
    cases small
    all_goals simp only [d1, d2]
    all_goals clear d1 d2
    all_goals go_enter Tryd.func58, Tryd.ntmps58
    all_goals go_wp2_with fail
    all_goals refine (S _).mono ?_
    all_goals rintro e w1 ⟨rfl, B1⟩
    · obtain ⟨a0, a1, a2, a3, a4⟩ := (Ask.new w false false 0 u r 54).kept B1
      go_wp2
      go_ret
      exact ⟨rfl, below1 (below_new _ _) B1⟩
    · obtain ⟨a0, a1, a2, a3, a4⟩ := (Ask.new w false true 0 u r 54).kept B1
      go_wp2
      go_ret
      exact ⟨rfl, below1 (below_new _ _) B1⟩
end SK
end Go.Proofs.YtfdkpcejjcifgauDoor
