/-
  What the program's functions of chapter 13 return: CosBack, and the angles of places.
-/
import Derived.Test.YtfdkpcejjcifgasBackImpl
namespace Go.Proofs.Ytfdkpcejjcifgas
open Go.RowKit Go.Sort
set_option linter.unusedVariables false
namespace SK
theorem aboutFrom_any (l h a : Int) (w : World) (l0 : -1000000000 ≤ l) (l1 : l ≤ 1000000000) (h0 : -1000000000 ≤ h) (h1 : h ≤ 1000000000) (a0 : -1000000000 ≤ a) (a1 : a ≤ 1000000000) :
    Calls Try.prog 26 #[spV l h, .int .i64 a] w fun e w' => e = .returned (spV (a - h) (a - l)) ∧ Below w.heap.size w w' := by
  go_enter Try.func26, Try.ntmps26
  go_wp2
  refine bodyPost_ret (v := .agg #[.int .i64 (a - h), .int .i64 (a - l)]) (by simp [results, Try.results26, go_sem]) rfl ⟨rfl, ?_⟩
  exact below_new2 _ _ _
theorem cosBack_any (x : Int) (w : World) :
    Calls Try.prog 12 #[.int .i64 x] w fun e w' => e = .returned (.tuple #[spV (SM.sel (okU x) (32400000 - SI.sbH x)) (SM.sel (okU x) (32400000 - SI.sbL x)), .bool (okU x)]) ∧ Below w.heap.size w w' := by
  have S := fun w => sineBack_any x w
  cases h : okU x
  · rw [h] at S
    simp only [SM.sel] at *
    go_enter Try.func12, Try.ntmps12
    go_wp2_with fail
    refine (S _).mono ?_
    rintro e w1 ⟨rfl, B1⟩
    obtain ⟨x0, x1, x2, x3⟩ := ((Box.new w 0 0 23).kept B1).alloc (.cells #[.int .i64 0, .int .i64 0] 23)
    have B := below1 (below1 (below_new w (.cells #[.int .i64 0, .int .i64 0] 23)) B1) (below_new w1 (.cells #[.int .i64 0, .int .i64 0] 23))
    go_wp2
    refine bodyPost_ret (v := .tuple #[.agg #[.int .i64 0, .int .i64 0], .bool false]) (by simp [results, Try.results12, go_sem, *]) rfl ⟨rfl, ?_⟩
    exact below_set2 B (Nat.le_refl _) _ _
  · rw [h] at S
    obtain ⟨u0, u1⟩ := okU_of h
    obtain ⟨_, _, l0, l1, h0, h1⟩ := SI.sb_of u0 u1
    simp only [SM.sel] at *
    generalize SI.sbL x = p at *
    generalize SI.sbH x = q at *
    have F := fun w => aboutFrom_any p q 32400000 w (by omega) (by omega) (by omega) (by omega) (by omega) (by omega)
    go_enter Try.func12, Try.ntmps12
    go_wp2_with fail
    refine (S _).mono ?_
    rintro e w1 ⟨rfl, B1⟩
    have X := ((Box.new w 0 0 23).kept B1).alloc (.cells #[.int .i64 p, .int .i64 q] 23)
    have B := below1 (below1 (below_new w (.cells #[.int .i64 0, .int .i64 0] 23)) B1) (below_new w1 (.cells #[.int .i64 p, .int .i64 q] 23))
    go_wp2_with fail
    refine (F _).mono ?_
    rintro e w2 ⟨rfl, B2⟩
    obtain ⟨x0, x1, x2, x3⟩ := X.kept B2
    replace B := below1 B B2
    clear X B1 B2 S F
    go_wp2
    refine bodyPost_ret (v := .tuple #[.agg #[.int .i64 (32400000 - q), .int .i64 (32400000 - p)], .bool true]) (by simp [results, Try.results12, go_sem, *]) rfl ⟨rfl, ?_⟩
    exact below_set2 B (Nat.le_refl _) _ _
theorem times_any (l h n : Int) (w : World) (l0 : -1000000000 ≤ l) (l1 : l ≤ 1000000000) (h0 : -1000000000 ≤ h) (h1 : h ≤ 1000000000) (n0 : 0 ≤ n) (n1 : n ≤ 1000000000) :
    Calls Try.prog 62 #[spV l h, .int .i64 n] w fun e w' => e = .returned (spV (NM.down (n * l) 1000000000) (NM.up (n * h) 1000000000)) ∧ Below w.heap.size w w' := by
  have P : ∀ (a : Int) (w : World), -1000000000 ≤ a → a ≤ 1000000000 → Calls Try.prog 68 #[.int .i64 a, .int .i64 n] w fun e w' => e = .returned (spV (NM.down (n * a) 1000000000) (NM.up (n * a) 1000000000)) ∧ Below w.heap.size w w' := by
    intro a w a0 a1
    have b1 := SM.mul_bd (x := a) (y := n) (A := 1000000000) (B := 1000000000) (by omega) (by omega) (by omega) (by omega)
    have v1 : IntKind.i64.wrap (a * n) = a * n := wrap_id (by omega) (by omega)
    have D := fun w => NW.roundDown_any (a * n) 1000000000 w (by omega) (by omega) (by omega) (by omega)
    have U := fun w => NW.roundUp_any (a * n) 1000000000 w (by omega) (by omega) (by omega) (by omega)
    rw [Int.mul_comm n a]
    generalize NM.down (a * n) 1000000000 = d at *
    generalize NM.up (a * n) 1000000000 = u at *
    go_enter Try.func68, Try.ntmps68
    go_wp2_with fail
    refine (D _).mono ?_
    rintro e w' ⟨rfl, rfl⟩
    go_wp2_with fail
    refine (U _).mono ?_
    rintro e w' ⟨rfl, rfl⟩
    go_wp2
    refine bodyPost_ret (v := .agg #[.int .i64 d, .int .i64 u]) (by simp [results, Try.results68, go_sem]) rfl ⟨rfl, ?_⟩
    exact below_new _ _
  have P1 := fun w => P l w l0 l1
  have P2 := fun w => P h w h0 h1
  clear P
  generalize NM.down (n * l) 1000000000 = a1 at *
  generalize NM.up (n * l) 1000000000 = a2 at *
  generalize NM.down (n * h) 1000000000 = a3 at *
  generalize NM.up (n * h) 1000000000 = a4 at *
  have X := (Box.new w l h 52).alloc (.cells #[.int .i64 0, .int .i64 0] 52)
  have R := Box.new2 w (.cells #[.int .i64 l, .int .i64 h] 52) 0 0 52
  have B := below_new2 w (.cells #[.int .i64 l, .int .i64 h] 52) (.cells #[.int .i64 0, .int .i64 0] 52)
  go_enter Try.func62, Try.ntmps62
  go_wp2_with fail
  generalize ((w.alloc (.cells #[.int .i64 l, .int .i64 h] 52)).alloc (.cells #[.int .i64 0, .int .i64 0] 52)) = W at *
  have fl0 := field0
  have fl1 := field1
  have k0 := cell_regrown X.c0
  have k1 := cell_regrown X.c1
  have c1 : ∀ d os, Calls Try.prog 68 #[.int .i64 l, .int .i64 n] (grow (redrawn W d) os) fun e w'' => e = .returned (spV a1 a2) ∧ ∃ p : Regrown, w'' = grow (redrawn W p.d) p.os := fun d os => Calls.regrown_of (P1 _)
  have c2 : ∀ d os, Calls Try.prog 68 #[.int .i64 h, .int .i64 n] (grow (redrawn W d) os) fun e w'' => e = .returned (spV a3 a4) ∧ ∃ p : Regrown, w'' = grow (redrawn W p.d) p.os := fun d os => Calls.regrown_of (P2 _)
  refine QT.region 10 (by kernel_rfl) (by kernel_rfl) ?_
  simp only [List.take, List.drop]
  repeat (quiet_step (fail))
  quiet_step (exact c1 _ _)
  repeat (quiet_step (fail))
  quiet_step (exact c2 _ _)
  repeat (quiet_step (fail))
  refine wpQuiet_nil ?_
  rintro _ ⟨p', rfl⟩
  have B2 := below_regrown W p'.d p'.os
  generalize grow (redrawn W p'.d) p'.os = V at *
  obtain ⟨e0, e1, i0, i1⟩ := R.kept B2
  replace B := below1 B B2
  clear B2 c1 c2 k0 k1 X P1 P2
  go_wp2
  refine bodyPost_ret (v := .agg #[.int .i64 a1, .int .i64 a4]) (by simp [results, Try.results62, go_sem, *]) rfl ⟨rfl, ?_⟩
  exact below_set2 B (by omega) _ _
set_option maxHeartbeats 2000000 in
theorem aside_any (u r m : Int) (w : World) (u0 : 0 ≤ u) (u1 : u ≤ 1000000000) (r0 : 0 ≤ r) (r1 : r ≤ 1000000000) (m0 : -32400000 ≤ m) (m1 : m ≤ 32400000) :
    Calls Try.prog 54 #[spV u r, .int .i64 m] w fun e w' => e = .returned (spV (SI.sdL u r m) (SI.sdH u r m)) ∧ Below w.heap.size w w' := by
  have S := fun w => sineOfHalves_any (2 * m) w (by omega) (by omega)
  have C := fun w => sineOfHalves_any (2 * m + 64800000) w (by omega) (by omega)
  obtain ⟨_, f1, f2, f3, _⟩ := SI.si_enc (2 * m)
  obtain ⟨_, g1, g2, g3, _⟩ := SI.si_enc (2 * m + 64800000)
  have HL : Hide (SI.sdL u r m = NM.down (u * SI.siL (2 * m + 64800000)) 1000000000 - NM.up (r * SI.siH (2 * m)) 1000000000) := ⟨rfl⟩
  have HH : Hide (SI.sdH u r m = NM.up (u * SI.siH (2 * m + 64800000)) 1000000000 - NM.down (r * SI.siL (2 * m)) 1000000000) := ⟨rfl⟩
  generalize SI.siL (2 * m + 64800000) = cl at *
  generalize SI.siH (2 * m + 64800000) = ch at *
  generalize SI.siL (2 * m) = sl at *
  generalize SI.siH (2 * m) = sh at *
  have b1 := SM.mul_bd (x := u) (y := cl) (A := 1000000000) (B := 1000000000) (by omega) (by omega) (by omega) (by omega)
  have b2 := SM.mul_bd (x := u) (y := ch) (A := 1000000000) (B := 1000000000) (by omega) (by omega) (by omega) (by omega)
  have b3 := SM.mul_bd (x := r) (y := sl) (A := 1000000000) (B := 1000000000) (by omega) (by omega) (by omega) (by omega)
  have b4 := SM.mul_bd (x := r) (y := sh) (A := 1000000000) (B := 1000000000) (by omega) (by omega) (by omega) (by omega)
  have T1 := fun w => times_any cl ch u w (by omega) (by omega) (by omega) (by omega) u0 u1
  have T2 := fun w => times_any sl sh r w (by omega) (by omega) (by omega) (by omega) r0 r1
  have d1 : -1000000000 ≤ NM.down (u * cl) 1000000000 ∧ NM.down (u * cl) 1000000000 ≤ 1000000000 := by unfold NM.down; omega
  have d2 : -1000000000 ≤ NM.up (u * ch) 1000000000 ∧ NM.up (u * ch) 1000000000 ≤ 1000000000 := by unfold NM.up; omega
  have d3 : -1000000000 ≤ NM.down (r * sl) 1000000000 ∧ NM.down (r * sl) 1000000000 ≤ 1000000000 := by unfold NM.down; omega
  have d4 : -1000000000 ≤ NM.up (r * sh) 1000000000 ∧ NM.up (r * sh) 1000000000 ≤ 1000000000 := by unfold NM.up; omega
  obtain ⟨d11, d12⟩ := d1
  obtain ⟨d21, d22⟩ := d2
  obtain ⟨d31, d32⟩ := d3
  obtain ⟨d41, d42⟩ := d4
  rw [HL.out, HH.out]
  clear HL HH b1 b2 b3 b4
  generalize NM.down (u * cl) 1000000000 = x1 at *
  generalize NM.up (u * ch) 1000000000 = x2 at *
  generalize NM.down (r * sl) 1000000000 = x3 at *
  generalize NM.up (r * sh) 1000000000 = x4 at *
  have T3 := fun w => about_any x3 x4 w (by omega) (by omega) (by omega) (by omega)
  have T4 : ∀ w, Calls Try.prog 63 #[spV x1 x2, spV (-x4) (-x3)] w fun e w' => e = .returned (spV (x1 - x4) (x2 - x3)) ∧ Below w.heap.size w w' := fun w => (plus_eq x1 x2 (-x4) (-x3) w (by omega) (by omega) (by omega) (by omega) (by omega) (by omega) (by omega) (by omega)).mono fun _ _ ⟨a, b⟩ => ⟨by rw [a, Int.sub_eq_add_neg, Int.sub_eq_add_neg], b ▸ below1 (below_new2 w _ _) (below_new _ _)⟩
  have P0 := (Box.new w u r 44).alloc (.cells #[.int .i64 0, .int .i64 0] 52)
  have R0 := Box.new2 w (.cells #[.int .i64 u, .int .i64 r] 44) 0 0 52
  have B := below_new2 w (.cells #[.int .i64 u, .int .i64 r] 44) (.cells #[.int .i64 0, .int .i64 0] 52)
  go_enter Try.func54, Try.ntmps54
  go_wp2_with fail
  refine (S _).mono ?_
  rintro e w1 ⟨rfl, B1⟩
  replace P0 := P0.kept B1
  replace R0 := R0.kept B1
  replace B := below1 B B1
  clear S B1
  go_wp2_with fail
  refine (C _).mono ?_
  rintro e w2 ⟨rfl, B2⟩
  replace P0 := ((P0.kept B2).alloc (.cells #[.int .i64 sl, .int .i64 sh] 52)).alloc (.cells #[.int .i64 cl, .int .i64 ch] 52)
  replace R0 := ((R0.kept B2).alloc (.cells #[.int .i64 sl, .int .i64 sh] 52)).alloc (.cells #[.int .i64 cl, .int .i64 ch] 52)
  have X := (Box.new w2 sl sh 52).alloc (.cells #[.int .i64 cl, .int .i64 ch] 52)
  have Y := Box.new2 w2 (.cells #[.int .i64 sl, .int .i64 sh] 52) cl ch 52
  replace B := below1 (below1 B B2) (below_new2 w2 (.cells #[.int .i64 sl, .int .i64 sh] 52) (.cells #[.int .i64 cl, .int .i64 ch] 52))
  clear C B2
  go_wp2_with fail
  generalize ((w2.alloc (.cells #[.int .i64 sl, .int .i64 sh] 52)).alloc (.cells #[.int .i64 cl, .int .i64 ch] 52)) = W at *
  have k0 := cell_regrown P0.c0
  have k1 := cell_regrown P0.c1
  have k2 := cell_regrown X.c0
  have k3 := cell_regrown X.c1
  have k4 := cell_regrown Y.c0
  have k5 := cell_regrown Y.c1
  have c1 : ∀ d os, Calls Try.prog 62 #[spV cl ch, .int .i64 u] (grow (redrawn W d) os) fun e w'' => e = .returned (spV x1 x2) ∧ ∃ p : Regrown, w'' = grow (redrawn W p.d) p.os := fun d os => Calls.regrown_of (T1 _)
  have c2 : ∀ d os, Calls Try.prog 62 #[spV sl sh, .int .i64 r] (grow (redrawn W d) os) fun e w'' => e = .returned (spV x3 x4) ∧ ∃ p : Regrown, w'' = grow (redrawn W p.d) p.os := fun d os => Calls.regrown_of (T2 _)
  have c3 : ∀ d os, Calls Try.prog 40 #[spV x3 x4] (grow (redrawn W d) os) fun e w'' => e = .returned (spV (-x4) (-x3)) ∧ ∃ p : Regrown, w'' = grow (redrawn W p.d) p.os := fun d os => Calls.regrown_of (T3 _)
  have c4 : ∀ d os, Calls Try.prog 63 #[spV x1 x2, spV (-x4) (-x3)] (grow (redrawn W d) os) fun e w'' => e = .returned (spV (x1 - x4) (x2 - x3)) ∧ ∃ p : Regrown, w'' = grow (redrawn W p.d) p.os := fun d os => Calls.regrown_of (T4 _)
  refine QT.region 10 (by kernel_rfl) (by kernel_rfl) ?_
  simp only [List.take, List.drop]
  repeat (quiet_step (fail))
  quiet_step (exact c1 _ _)
  repeat (quiet_step (fail))
  quiet_step (exact c2 _ _)
  repeat (quiet_step (fail))
  quiet_step (exact c3 _ _)
  repeat (quiet_step (fail))
  quiet_step (exact c4 _ _)
  repeat (quiet_step (fail))
  refine wpQuiet_nil ?_
  rintro _ ⟨p', rfl⟩
  have B2 := below_regrown W p'.d p'.os
  generalize grow (redrawn W p'.d) p'.os = V at *
  obtain ⟨e0, e1, i0, i1⟩ := R0.kept B2
  replace B := below1 B B2
  clear B2 c1 c2 c3 c4 k0 k1 k2 k3 k4 k5 X Y P0 T1 T2 T3 T4
  go_wp2
  refine bodyPost_ret (v := .agg #[.int .i64 (x1 - x4), .int .i64 (x2 - x3)]) (by simp [results, Try.results54, go_sem, *]) rfl ⟨rfl, ?_⟩
  exact below_set2 B (by omega) _ _
theorem ahead_any (u r m : Int) (w : World) (u0 : 0 ≤ u) (u1 : u ≤ 1000000000) (r0 : 0 ≤ r) (r1 : r ≤ 1000000000) (m0 : -32400000 ≤ m) (m1 : m ≤ 32400000) :
    Calls Try.prog 42 #[spV u r, .int .i64 m] w fun e w' => e = .returned (.bool (decide (0 ≤ SI.sdL u r m))) ∧ Below w.heap.size w w' := by
  have S := fun w => aside_any u r m w u0 u1 r0 r1 m0 m1
  generalize SI.sdL u r m = a at *
  generalize SI.sdH u r m = b at *
  have fl0 := field0
  go_enter Try.func42, Try.ntmps42
  go_wp2_with fail
  refine (S _).mono ?_
  rintro e w1 ⟨rfl, B1⟩
  go_wp2
  go_ret
  exact ⟨rfl, below1 (below_new _ _) B1⟩
theorem behind_any (u r m : Int) (w : World) (u0 : 0 ≤ u) (u1 : u ≤ 1000000000) (r0 : 0 ≤ r) (r1 : r ≤ 1000000000) (m0 : -32400000 ≤ m) (m1 : m ≤ 32400000) :
    Calls Try.prog 44 #[spV u r, .int .i64 m] w fun e w' => e = .returned (.bool (!decide (0 ≤ SI.sdL u r m ∨ 0 < SI.sdH u r m))) ∧ Below w.heap.size w w' := by
  have S := fun w => aside_any u r m w u0 u1 r0 r1 m0 m1
  generalize SI.sdL u r m = a at *
  generalize SI.sdH u r m = b at *
  rcases (show 0 ≤ a ∨ (¬ 0 ≤ a ∧ b ≤ 0) ∨ (¬ 0 ≤ a ∧ ¬ b ≤ 0) by omega) with z | ⟨z, y⟩ | ⟨z, y⟩
  · have H : Hide (false = !decide (0 ≤ a ∨ 0 < b)) := ⟨by rw [decide_eq_true (show 0 ≤ a ∨ 0 < b by omega)]; rfl⟩
    go_enter Try.func44, Try.ntmps44
    go_wp2_with fail
    refine (S _).mono ?_
    rintro e w1 ⟨rfl, B1⟩
    go_wp2
    go_ret
    exact ⟨NW.ret_bool (by first | rfl | exact H.out | exact (decide_eq_false (by omega)).trans H.out), below1 (below1 (below_new _ _) B1) (below_new _ _)⟩
  · have H : Hide (true = !decide (0 ≤ a ∨ 0 < b)) := ⟨by rw [decide_eq_false (show ¬ (0 ≤ a ∨ 0 < b) by omega)]; rfl⟩
    go_enter Try.func44, Try.ntmps44
    go_wp2_with fail
    refine (S _).mono ?_
    rintro e w1 ⟨rfl, B1⟩
    go_wp2
    go_ret
    exact ⟨NW.ret_bool (by first | rfl | exact H.out | exact (decide_eq_false (by omega)).trans H.out), below1 (below1 (below_new _ _) B1) (below_new _ _)⟩
  · have H : Hide (false = !decide (0 ≤ a ∨ 0 < b)) := ⟨by rw [decide_eq_true (show 0 ≤ a ∨ 0 < b by omega)]; rfl⟩
    go_enter Try.func44, Try.ntmps44
    go_wp2_with fail
    refine (S _).mono ?_
    rintro e w1 ⟨rfl, B1⟩
    go_wp2
    go_ret
    exact ⟨NW.ret_bool (by first | rfl | exact H.out | exact (decide_eq_false (by omega)).trans H.out), below1 (below1 (below_new _ _) B1) (below_new _ _)⟩
theorem way1_any (u r m : Int) (b : Nat) (w : World) (P : Box w b u r) (u0 : 0 ≤ u) (u1 : u ≤ 1000000000) (r0 : 0 ≤ r) (r1 : r ≤ 1000000000) (m0 : -32400000 ≤ m) (m1 : m ≤ 32400000) :
    Calls Try.prog 43 #[.int .i64 m, .pointer (some ⟨b, 0, none⟩)] w fun e w' => e = .returned (.bool (decide (0 ≤ SI.sdL u r m ∨ 0 < SI.sdH u r m))) ∧ Below w.heap.size w w' := by
  have S := fun w => behind_any u r m w u0 u1 r0 r1 m0 m1
  generalize decide (0 ≤ SI.sdL u r m ∨ 0 < SI.sdH u r m) = y at *
  obtain ⟨p0, p1, p2, p3⟩ := P
  cases y
  all_goals go_enter Try.func43, Try.ntmps43
  all_goals go_wp2_with fail
  all_goals refine (S _).mono ?_
  all_goals rintro e w1 ⟨rfl, B1⟩
  all_goals clear p0 p1 p2 p3
  all_goals go_wp2
  all_goals go_ret
  all_goals exact ⟨rfl, B1⟩
set_option maxHeartbeats 4000000 in
theorem halve_w1 (c : Value) (l h : Int) (f : Int → Bool) (K : World → Prop) (hK : ∀ w w', K w → Below w.heap.size w w' → K w') (hl : -32400000 ≤ l) (lh : l ≤ h) (hh : h ≤ 32400000)
    (ask : ∀ (m : Int) (w : World), l ≤ m → m ≤ h → K w → Calls Try.prog 42 #[c, .int .i64 m] w fun e w' => e = .returned (.bool (f m)) ∧ Below w.heap.size w w') (w : World) (hw : K w) :
    Calls Try.prog 36 #[.int .i64 l, .int .i64 h, .func (.func 42) #[c] #[]] w fun e w' => e = .returned (.tuple #[.int .i64 (SI.hv f 27 l h).1, .int .i64 (SI.hv f 27 l h).2]) ∧ Below w.heap.size w w' := by
  have fl : h - l ≤ (2 : Int) ^ 27 := by rw [show (2 : Int) ^ 27 = 134217728 from by decide +kernel]; omega
  obtain ⟨R, hR⟩ : ∃ R, SI.hv f 27 l h = R := ⟨_, rfl⟩
  rw [hR]
  have HR := Hide.mk hR
  have FL := Hide.mk fl
  clear hR fl
  go_enter Try.func36, Try.ntmps36
  go_wp2_with fail
  go_step3
  go_wp2_with fail
  go_step3
  go_wp2_with fail
  go_loopw [0, 1] (fun s1 s2 wr => ∃ (n : Nat) (lo hi : Int), s1 = .int .i64 lo ∧ s2 = .int .i64 hi ∧ SI.hv f n lo hi = R ∧ hi - lo ≤ (2 : Int) ^ n ∧ l ≤ lo ∧ lo ≤ hi ∧ hi ≤ h ∧ K wr ∧ Below w.heap.size w wr)
    (fun s1 s2 _ => (intOf s2 - intOf s1).toNat)
  case atStart => exact ⟨27, l, h, rfl, rfl, HR.out, FL.out, Int.le_refl _, lh, Int.le_refl _, hw, Below.refl _ _⟩
  case round =>
    obtain ⟨n, lo, hi, rfl, rfl, hv, fu, b0, b1, b2, A, B⟩ := hrel
    have HV := Hide.mk hv
    clear hv
    have D := fun w => NW.roundDown_any (lo + hi) 2 w (by omega) (by omega) (by omega) (by omega)
    by_cases g : 1 < hi - lo
    · obtain ⟨m, rfl, fm⟩ := fuel fu g
      obtain ⟨m1, m2⟩ := SI.mid_bd g
      have mb : 2 * NM.down (lo + hi) 2 ≤ lo + hi ∧ lo + hi ≤ 2 * NM.down (lo + hi) 2 + 1 := by unfold NM.down; omega
      obtain ⟨mb1, mb2⟩ := mb
      have F1 := Hide.mk (fm (hi - NM.down (lo + hi) 2) (by omega))
      have F2 := Hide.mk (fm (NM.down (lo + hi) 2 - lo) (by omega))
      have L := fun w => ask (NM.down (lo + hi) 2) w (by omega) (by omega)
      cases e : f (NM.down (lo + hi) 2)
      · have V := Hide.mk ((SI.hv_not (n := m) g e).symm.trans HV.out)
        rw [e] at L
        clear HV fu fm e
        generalize NM.down (lo + hi) 2 = mid at *
        go_wp2_with fail
        refine (D _).mono ?_
        rintro e w' ⟨rfl, rfl⟩
        go_wp2_with fail
        refine (L _ A).mono ?_
        rintro e w2 ⟨rfl, B2⟩
        go_wp2
        go_roundw
        case rel => exact ⟨m, lo, mid, rfl, rfl, V.out, F2.out, b0, by omega, by omega, hK _ _ A B2, below1 B B2⟩
        case measure => simp [intOf]; omega
      · have V := Hide.mk ((SI.hv_yes (n := m) g e).symm.trans HV.out)
        rw [e] at L
        clear HV fu fm e
        generalize NM.down (lo + hi) 2 = mid at *
        go_wp2_with fail
        refine (D _).mono ?_
        rintro e w' ⟨rfl, rfl⟩
        go_wp2_with fail
        refine (L _ A).mono ?_
        rintro e w2 ⟨rfl, B2⟩
        go_wp2
        go_roundw
        case rel => exact ⟨m, mid, hi, rfl, rfl, V.out, F1.out, by omega, by omega, b2, hK _ _ A B2, below1 B B2⟩
        case measure => simp [intOf]; omega
    · have E := SI.hv_end (f := f) (n := n) g
      rw [HV.out] at E
      subst E
      clear HV fu
      go_wp2_with fail
      refine (D _).mono ?_
      rintro e w' ⟨rfl, rfl⟩
      go_wp2
      rw [Exit.noGoto_ret]
      go_ret2
      exact ⟨rfl, B⟩
set_option maxHeartbeats 4000000 in
theorem halve_w2 (c : Value) (l h : Int) (f : Int → Bool) (K : World → Prop) (hK : ∀ w w', K w → Below w.heap.size w w' → K w') (hl : -32400000 ≤ l) (lh : l ≤ h) (hh : h ≤ 32400000)
    (ask : ∀ (m : Int) (w : World), l ≤ m → m ≤ h → K w → Calls Try.prog 43 #[.int .i64 m, c] w fun e w' => e = .returned (.bool (f m)) ∧ Below w.heap.size w w') (w : World) (hw : K w) :
    Calls Try.prog 36 #[.int .i64 l, .int .i64 h, .func (.func 43) #[] #[c]] w fun e w' => e = .returned (.tuple #[.int .i64 (SI.hv f 27 l h).1, .int .i64 (SI.hv f 27 l h).2]) ∧ Below w.heap.size w w' := by
  have fl : h - l ≤ (2 : Int) ^ 27 := by rw [show (2 : Int) ^ 27 = 134217728 from by decide +kernel]; omega
  obtain ⟨R, hR⟩ : ∃ R, SI.hv f 27 l h = R := ⟨_, rfl⟩
  rw [hR]
  have HR := Hide.mk hR
  have FL := Hide.mk fl
  clear hR fl
  go_enter Try.func36, Try.ntmps36
  go_wp2_with fail
  go_step3
  go_wp2_with fail
  go_step3
  go_wp2_with fail
  go_loopw [0, 1] (fun s1 s2 wr => ∃ (n : Nat) (lo hi : Int), s1 = .int .i64 lo ∧ s2 = .int .i64 hi ∧ SI.hv f n lo hi = R ∧ hi - lo ≤ (2 : Int) ^ n ∧ l ≤ lo ∧ lo ≤ hi ∧ hi ≤ h ∧ K wr ∧ Below w.heap.size w wr)
    (fun s1 s2 _ => (intOf s2 - intOf s1).toNat)
  case atStart => exact ⟨27, l, h, rfl, rfl, HR.out, FL.out, Int.le_refl _, lh, Int.le_refl _, hw, Below.refl _ _⟩
  case round =>
    obtain ⟨n, lo, hi, rfl, rfl, hv, fu, b0, b1, b2, A, B⟩ := hrel
    have HV := Hide.mk hv
    clear hv
    have D := fun w => NW.roundDown_any (lo + hi) 2 w (by omega) (by omega) (by omega) (by omega)
    by_cases g : 1 < hi - lo
    · obtain ⟨m, rfl, fm⟩ := fuel fu g
      obtain ⟨m1, m2⟩ := SI.mid_bd g
      have mb : 2 * NM.down (lo + hi) 2 ≤ lo + hi ∧ lo + hi ≤ 2 * NM.down (lo + hi) 2 + 1 := by unfold NM.down; omega
      obtain ⟨mb1, mb2⟩ := mb
      have F1 := Hide.mk (fm (hi - NM.down (lo + hi) 2) (by omega))
      have F2 := Hide.mk (fm (NM.down (lo + hi) 2 - lo) (by omega))
      have L := fun w => ask (NM.down (lo + hi) 2) w (by omega) (by omega)
      cases e : f (NM.down (lo + hi) 2)
      · have V := Hide.mk ((SI.hv_not (n := m) g e).symm.trans HV.out)
        rw [e] at L
        clear HV fu fm e
        generalize NM.down (lo + hi) 2 = mid at *
        go_wp2_with fail
        refine (D _).mono ?_
        rintro e w' ⟨rfl, rfl⟩
        go_wp2_with fail
        refine (L _ A).mono ?_
        rintro e w2 ⟨rfl, B2⟩
        go_wp2
        go_roundw
        case rel => exact ⟨m, lo, mid, rfl, rfl, V.out, F2.out, b0, by omega, by omega, hK _ _ A B2, below1 B B2⟩
        case measure => simp [intOf]; omega
      · have V := Hide.mk ((SI.hv_yes (n := m) g e).symm.trans HV.out)
        rw [e] at L
        clear HV fu fm e
        generalize NM.down (lo + hi) 2 = mid at *
        go_wp2_with fail
        refine (D _).mono ?_
        rintro e w' ⟨rfl, rfl⟩
        go_wp2_with fail
        refine (L _ A).mono ?_
        rintro e w2 ⟨rfl, B2⟩
        go_wp2
        go_roundw
        case rel => exact ⟨m, mid, hi, rfl, rfl, V.out, F1.out, by omega, by omega, b2, hK _ _ A B2, below1 B B2⟩
        case measure => simp [intOf]; omega
    · have E := SI.hv_end (f := f) (n := n) g
      rw [HV.out] at E
      subst E
      clear HV fu
      go_wp2_with fail
      refine (D _).mono ?_
      rintro e w' ⟨rfl, rfl⟩
      go_wp2
      rw [Exit.noGoto_ret]
      go_ret2
      exact ⟨rfl, B⟩
set_option maxHeartbeats 1000000 in
theorem way_any (u r : Int) (w : World) (u0 : 0 ≤ u) (u1 : u ≤ 1000000000) (r0 : 0 ≤ r) (r1 : r ≤ 1000000000) :
    Calls Try.prog 28 #[spV u r] w fun e w' => e = .returned (spV (SI.wqL u r) (SI.wqH u r)) ∧ Below w.heap.size w w' := by
  have hmf : ∀ (fn : Fn) (first cap : Array Value) (w : World), (Instr.makeFunc fn first cap).run Try.prog w = .ok (.func fn first cap) w := fun _ _ _ _ => rfl
  have A := fun v => halve_w1 (spV u r) 0 32400000 (fun m => decide (0 ≤ SI.sdL u r m)) (fun _ => True) (fun _ _ _ _ => trivial) (by decide) (by decide) (by decide) (fun m w a b _ => ahead_any u r m w u0 u1 r0 r1 (by omega) b) v trivial
  have C := fun v (hc : Box v w.heap.size u r) => halve_w2 (.pointer (some ⟨w.heap.size, 0, none⟩)) 0 32400000 (fun m => decide (0 ≤ SI.sdL u r m ∨ 0 < SI.sdH u r m)) (fun v => Box v w.heap.size u r) (fun _ _ h k => h.kept k) (by decide) (by decide) (by decide) (fun m v a b hc => way1_any u r m _ v hc u0 u1 r0 r1 (by omega) b) v hc
  have E1 : Hide (SI.wqL u r = (SI.hv (fun m => decide (0 ≤ SI.sdL u r m)) 27 0 32400000).1) := ⟨rfl⟩
  have E2 : Hide (SI.wqH u r = (SI.hv (fun m => decide (0 ≤ SI.sdL u r m ∨ 0 < SI.sdH u r m)) 27 0 32400000).2) := ⟨rfl⟩
  generalize SI.hv (fun m => decide (0 ≤ SI.sdL u r m)) 27 0 32400000 = P at *
  generalize SI.hv (fun m => decide (0 ≤ SI.sdL u r m ∨ 0 < SI.sdH u r m)) 27 0 32400000 = Q at *
  obtain ⟨p, q⟩ := P
  obtain ⟨s, t⟩ := Q
  simp only [] at *
  rw [E1.out, E2.out]
  clear E1 E2
  have P0 := (Box.new w u r 44).alloc (.cells #[.int .i64 0, .int .i64 0] 23)
  have R0 := Box.new2 w (.cells #[.int .i64 u, .int .i64 r] 44) 0 0 23
  go_enter Try.func28, Try.ntmps28
  go_wp2_with fail
  refine (A _).mono ?_
  rintro e w1 ⟨rfl, B1⟩
  replace P0 := P0.kept B1
  replace R0 := R0.kept B1
  have B := below1 (below_new2 _ _ _) B1
  clear A B1
  go_wp2_with fail
  refine (C _ P0).mono ?_
  rintro e w2 ⟨rfl, B2⟩
  obtain ⟨x0, x1, x2, x3⟩ := R0.kept B2
  replace B := below1 B B2
  clear P0 R0 C B2
  go_wp2
  refine bodyPost_ret (v := .agg #[.int .i64 p, .int .i64 t]) (by simp [results, Try.results28, go_sem, *]) rfl ⟨rfl, ?_⟩
  exact below_set2 B (by omega) _ _
end SK
end Go.Proofs.Ytfdkpcejjcifgas
