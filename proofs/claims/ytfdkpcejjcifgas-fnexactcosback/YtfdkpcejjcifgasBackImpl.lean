/-
  What the program's functions of chapter 13 return: halving by a question, angles of sines, and of places.
-/
import Derived.Test.YtfdkpcejjcifgasSineImpl
import Derived.Test.YtfdkpcejjcifgasBackWalks3
import Derived.WalkMore
namespace Go.Proofs.Ytfdkpcejjcifgas
open Go.RowKit Go.Sort
set_option linter.unusedVariables false
namespace SK
theorem isOne_any (x : Int) (w : World) :
    Calls Try.prog 22 #[.int .i64 x] w fun e w' => e = .returned (.bool (okU x)) ∧ w' = w := by
  have N : ∀ w, Calls Try.prog 35 #[.int .i64 x, .int .i64 1000000000] w fun e w' => e = .returned (.bool (okU x)) ∧ w' = w := by
    intro w
    by_cases h1 : -1000000000 ≤ x
    · by_cases h2 : x ≤ 1000000000
      · have H : Hide (true = okU x) := ⟨(decide_eq_true ⟨h1, h2⟩).symm⟩
        go_enter Try.func35, Try.ntmps35
        go_wp2
        go_ret
        exact ⟨NW.ret_bool H.out, rfl⟩
      · have H : Hide (false = okU x) := ⟨(decide_eq_false (fun h => h2 h.2)).symm⟩
        go_enter Try.func35, Try.ntmps35
        go_wp2
        go_ret
        exact ⟨NW.ret_bool H.out, rfl⟩
    · have H : Hide (false = okU x) := ⟨(decide_eq_false (fun h => h1 h.1)).symm⟩
      go_enter Try.func35, Try.ntmps35
      go_wp2
      go_ret
      exact ⟨NW.ret_bool H.out, rfl⟩
  go_enter Try.func22, Try.ntmps22
  go_wp2_with fail
  refine (N _).mono ?_
  rintro e w' ⟨rfl, rfl⟩
  go_wp2
  go_ret
  exact ⟨rfl, rfl⟩
set_option maxHeartbeats 4000000 in
theorem halve_s1 (c d : Value) (l h : Int) (f : Int → Bool) (K : Nat → World → Prop) (hK : ∀ k w, K (k + 1) w → K k w) (hl : -32400000 ≤ l) (lh : l ≤ h) (hh : h ≤ 32400000)
    (ask : ∀ (m : Int) (k : Nat) (w : World), l ≤ m → m ≤ h → K (k + 1) w → Calls Try.prog 37 #[.int .i64 m, c, d] w fun e w' => e = .returned (.bool (f m)) ∧ K k w') (w : World) (hw : K 27 w) :
    Calls Try.prog 36 #[.int .i64 l, .int .i64 h, .func (.func 37) #[] #[c, d]] w fun e w' => e = .returned (.tuple #[.int .i64 (SI.hv f 27 l h).1, .int .i64 (SI.hv f 27 l h).2]) ∧ K 0 w' := by
  have fl : h - l ≤ (2 : Int) ^ 27 := by rw [show (2 : Int) ^ 27 = 134217728 from by decide +kernel]; omega
  obtain ⟨R, hR⟩ : ∃ R, SI.hv f 27 l h = R := ⟨_, rfl⟩
  rw [hR]
  have HR := Hide.mk hR
  have FL := Hide.mk fl
  clear hR fl
  have KZ : ∀ n w, K n w → K 0 w := fun n => by
    induction n with
    | zero => intro w h; exact h
    | succ n ih => intro w h; exact ih w (hK n w h)
  go_enter Try.func36, Try.ntmps36
  go_wp2_with fail
  go_step3
  go_wp2_with fail
  go_step3
  go_wp2_with fail
  go_loopw [0, 1] (fun s1 s2 wr => ∃ (n : Nat) (lo hi : Int), s1 = .int .i64 lo ∧ s2 = .int .i64 hi ∧ SI.hv f n lo hi = R ∧ hi - lo ≤ (2 : Int) ^ n ∧ l ≤ lo ∧ lo ≤ hi ∧ hi ≤ h ∧ K n wr)
    (fun s1 s2 _ => (intOf s2 - intOf s1).toNat)
  case atStart => exact ⟨27, l, h, rfl, rfl, HR.out, FL.out, Int.le_refl _, lh, Int.le_refl _, hw⟩
  case round =>
    obtain ⟨n, lo, hi, rfl, rfl, hv, fu, b0, b1, b2, A⟩ := hrel
    have HV := Hide.mk hv
    clear hv
    have D := fun w => NW.roundDown_any (lo + hi) 2 w (by omega) (by omega) (by omega) (by omega)
    by_cases g : 1 < hi - lo
    · obtain ⟨m, rfl, fm⟩ := fuel fu g
      obtain ⟨m1, m2⟩ := SI.mid_bd g
      have mb : 2 * NM.down (lo + hi) 2 ≤ lo + hi ∧ lo + hi ≤ 2 * NM.down (lo + hi) 2 + 1 := by unfold NM.down; omega
      obtain ⟨mb1, mb2⟩ := mb
      have F1 := Hide.mk (fm (hi - NM.down (lo + hi) 2) (by omega))
      have F2 := Hide.mk (fm (NM.down (lo + hi) 2 - lo) (by omega))
      have L := fun w => ask (NM.down (lo + hi) 2) m w (by omega) (by omega)
      cases e : f (NM.down (lo + hi) 2)
      · have V := Hide.mk ((SI.hv_not (n := m) g e).symm.trans HV.out)
        rw [e] at L
        clear HV fu fm e
        generalize NM.down (lo + hi) 2 = mid at *
        go_wp2_with fail
        refine (D _).mono ?_
        rintro e w' ⟨rfl, rfl⟩
        go_wp2_with fail
        refine (L _ A).mono ?_
        rintro e w2 ⟨rfl, A2⟩
        go_wp2
        go_roundw
        case rel => exact ⟨m, lo, mid, rfl, rfl, V.out, F2.out, b0, by omega, by omega, A2⟩
        case measure => simp [intOf]; omega
      · have V := Hide.mk ((SI.hv_yes (n := m) g e).symm.trans HV.out)
        rw [e] at L
        clear HV fu fm e
        generalize NM.down (lo + hi) 2 = mid at *
        go_wp2_with fail
        refine (D _).mono ?_
        rintro e w' ⟨rfl, rfl⟩
        go_wp2_with fail
        refine (L _ A).mono ?_
        rintro e w2 ⟨rfl, A2⟩
        go_wp2
        go_roundw
        case rel => exact ⟨m, mid, hi, rfl, rfl, V.out, F1.out, by omega, by omega, b2, A2⟩
        case measure => simp [intOf]; omega
    · have E := SI.hv_end (f := f) (n := n) g
      rw [HV.out] at E
      subst E
      clear HV fu
      go_wp2_with fail
      refine (D _).mono ?_
      rintro e w' ⟨rfl, rfl⟩
      go_wp2
      rw [Exit.noGoto_ret]
      go_ret2
      exact ⟨rfl, KZ _ _ A⟩
set_option maxHeartbeats 4000000 in
theorem halve_s2 (c d : Value) (l h : Int) (f : Int → Bool) (K : Nat → World → Prop) (hK : ∀ k w, K (k + 1) w → K k w) (hl : -32400000 ≤ l) (lh : l ≤ h) (hh : h ≤ 32400000)
    (ask : ∀ (m : Int) (k : Nat) (w : World), l ≤ m → m ≤ h → K (k + 1) w → Calls Try.prog 41 #[.int .i64 m, c, d] w fun e w' => e = .returned (.bool (f m)) ∧ K k w') (w : World) (hw : K 27 w) :
    Calls Try.prog 36 #[.int .i64 l, .int .i64 h, .func (.func 41) #[] #[c, d]] w fun e w' => e = .returned (.tuple #[.int .i64 (SI.hv f 27 l h).1, .int .i64 (SI.hv f 27 l h).2]) ∧ K 0 w' := by
  have fl : h - l ≤ (2 : Int) ^ 27 := by rw [show (2 : Int) ^ 27 = 134217728 from by decide +kernel]; omega
  obtain ⟨R, hR⟩ : ∃ R, SI.hv f 27 l h = R := ⟨_, rfl⟩
  rw [hR]
  have HR := Hide.mk hR
  have FL := Hide.mk fl
  clear hR fl
  have KZ : ∀ n w, K n w → K 0 w := fun n => by
    induction n with
    | zero => intro w h; exact h
    | succ n ih => intro w h; exact ih w (hK n w h)
  go_enter Try.func36, Try.ntmps36
  go_wp2_with fail
  go_step3
  go_wp2_with fail
  go_step3
  go_wp2_with fail
  go_loopw [0, 1] (fun s1 s2 wr => ∃ (n : Nat) (lo hi : Int), s1 = .int .i64 lo ∧ s2 = .int .i64 hi ∧ SI.hv f n lo hi = R ∧ hi - lo ≤ (2 : Int) ^ n ∧ l ≤ lo ∧ lo ≤ hi ∧ hi ≤ h ∧ K n wr)
    (fun s1 s2 _ => (intOf s2 - intOf s1).toNat)
  case atStart => exact ⟨27, l, h, rfl, rfl, HR.out, FL.out, Int.le_refl _, lh, Int.le_refl _, hw⟩
  case round =>
    obtain ⟨n, lo, hi, rfl, rfl, hv, fu, b0, b1, b2, A⟩ := hrel
    have HV := Hide.mk hv
    clear hv
    have D := fun w => NW.roundDown_any (lo + hi) 2 w (by omega) (by omega) (by omega) (by omega)
    by_cases g : 1 < hi - lo
    · obtain ⟨m, rfl, fm⟩ := fuel fu g
      obtain ⟨m1, m2⟩ := SI.mid_bd g
      have mb : 2 * NM.down (lo + hi) 2 ≤ lo + hi ∧ lo + hi ≤ 2 * NM.down (lo + hi) 2 + 1 := by unfold NM.down; omega
      obtain ⟨mb1, mb2⟩ := mb
      have F1 := Hide.mk (fm (hi - NM.down (lo + hi) 2) (by omega))
      have F2 := Hide.mk (fm (NM.down (lo + hi) 2 - lo) (by omega))
      have L := fun w => ask (NM.down (lo + hi) 2) m w (by omega) (by omega)
      cases e : f (NM.down (lo + hi) 2)
      · have V := Hide.mk ((SI.hv_not (n := m) g e).symm.trans HV.out)
        rw [e] at L
        clear HV fu fm e
        generalize NM.down (lo + hi) 2 = mid at *
        go_wp2_with fail
        refine (D _).mono ?_
        rintro e w' ⟨rfl, rfl⟩
        go_wp2_with fail
        refine (L _ A).mono ?_
        rintro e w2 ⟨rfl, A2⟩
        go_wp2
        go_roundw
        case rel => exact ⟨m, lo, mid, rfl, rfl, V.out, F2.out, b0, by omega, by omega, A2⟩
        case measure => simp [intOf]; omega
      · have V := Hide.mk ((SI.hv_yes (n := m) g e).symm.trans HV.out)
        rw [e] at L
        clear HV fu fm e
        generalize NM.down (lo + hi) 2 = mid at *
        go_wp2_with fail
        refine (D _).mono ?_
        rintro e w' ⟨rfl, rfl⟩
        go_wp2_with fail
        refine (L _ A).mono ?_
        rintro e w2 ⟨rfl, A2⟩
        go_wp2
        go_roundw
        case rel => exact ⟨m, mid, hi, rfl, rfl, V.out, F1.out, by omega, by omega, b2, A2⟩
        case measure => simp [intOf]; omega
    · have E := SI.hv_end (f := f) (n := n) g
      rw [HV.out] at E
      subst E
      clear HV fu
      go_wp2_with fail
      refine (D _).mono ?_
      rintro e w' ⟨rfl, rfl⟩
      go_wp2
      rw [Exit.noGoto_ret]
      go_ret2
      exact ⟨rfl, KZ _ _ A⟩
theorem ask1_any (x m : Int) (b b' : Nat) (w : World) (hc : w.cell? ⟨b, 0, none⟩ = some (.func (.func 24) #[] #[])) (hd : w.cell? ⟨b', 0, none⟩ = some (.int .i64 x)) (m0 : -32400000 ≤ m) (m1 : m ≤ 32400000) :
    Calls Try.prog 37 #[.int .i64 m, .pointer (some ⟨b, 0, none⟩), .pointer (some ⟨b', 0, none⟩)] w fun e w' => e = .returned (.bool (decide (SI.siH (2 * m) ≤ x))) ∧ Below w.heap.size w w' := by
  have S := fun w => sineOfHalves_any (2 * m) w (by omega) (by omega)
  generalize SI.siL (2 * m) = p at *
  generalize SI.siH (2 * m) = q at *
  have k0 := cell_regrown hc
  have k1 := cell_regrown hd
  have fl0 := field0
  have fl1 := field1
  have v1 : IntKind.i64.wrap (2 * m) = 2 * m := wrap_id (by omega) (by omega)
  have c1 : ∀ d os, Calls Try.prog 24 #[.int .i64 (2 * m)] (grow (redrawn w d) os) fun e w'' => e = .returned (spV p q) ∧ ∃ p : Regrown, w'' = grow (redrawn w p.d) p.os := fun d os => Calls.regrown_of (S _)
  go_enter Try.func37, Try.ntmps37
  go_wp2_with fail
  refine wp_region_quiet_below (by kernel_rfl) (by kernel_rfl) ?_
  repeat (quiet_step (fail))
  quiet_step (exact c1 _ _)
  repeat (quiet_step (fail))
  refine wpQuiet_nil ?_
  rintro _ ⟨pa, rfl⟩
  have B := below_regrown w pa.d pa.os
  go_wp2
  go_ret
  exact ⟨rfl, B⟩
theorem ask2_any (x m : Int) (b b' : Nat) (w : World) (hc : w.cell? ⟨b, 0, none⟩ = some (.func (.func 24) #[] #[])) (hd : w.cell? ⟨b', 0, none⟩ = some (.int .i64 x)) (m0 : -32400000 ≤ m) (m1 : m ≤ 32400000) :
    Calls Try.prog 41 #[.int .i64 m, .pointer (some ⟨b, 0, none⟩), .pointer (some ⟨b', 0, none⟩)] w fun e w' => e = .returned (.bool (decide (SI.siL (2 * m) < x))) ∧ Below w.heap.size w w' := by
  have S := fun w => sineOfHalves_any (2 * m) w (by omega) (by omega)
  generalize SI.siL (2 * m) = p at *
  generalize SI.siH (2 * m) = q at *
  have k0 := cell_regrown hc
  have k1 := cell_regrown hd
  have fl0 := field0
  have fl1 := field1
  have v1 : IntKind.i64.wrap (2 * m) = 2 * m := wrap_id (by omega) (by omega)
  have c1 : ∀ d os, Calls Try.prog 24 #[.int .i64 (2 * m)] (grow (redrawn w d) os) fun e w'' => e = .returned (spV p q) ∧ ∃ p : Regrown, w'' = grow (redrawn w p.d) p.os := fun d os => Calls.regrown_of (S _)
  go_enter Try.func41, Try.ntmps41
  go_wp2_with fail
  refine wp_region_quiet_below (by kernel_rfl) (by kernel_rfl) ?_
  repeat (quiet_step (fail))
  quiet_step (exact c1 _ _)
  repeat (quiet_step (fail))
  refine wpQuiet_nil ?_
  rintro _ ⟨pa, rfl⟩
  have B := below_regrown w pa.d pa.os
  go_wp2
  go_ret
  exact ⟨rfl, B⟩
theorem backLow_any (x : Int) (g : Fn) (fs cs : Array Value) (w : World) (K : Nat → World → Prop) (hK : ∀ k w, K (k + 1) w → K k w)
    (ask : ∀ (m : Int) (k : Nat) (w' : World), -32400000 ≤ m → m ≤ 32400000 → K (k + 1) w' → Calls Try.prog 37 #[.int .i64 m, .pointer (some ⟨w.heap.size + 1, 0, none⟩), .pointer (some ⟨w.heap.size, 0, none⟩)] w' fun e w'' => e = .returned (.bool (decide (SI.siH (2 * m) ≤ x))) ∧ K k w'')
    (h0 : K 27 ((w.alloc (.cells #[.int .i64 x] 3)).alloc (.cells #[.func g fs cs] 41))) :
    Calls Try.prog 23 #[.int .i64 x, .func g fs cs] w fun e w' => e = .returned (.int .i64 (SI.sbL x)) ∧ K 0 w' := by
  have hmf : ∀ (fn : Fn) (first cap : Array Value) (w : World), (Instr.makeFunc fn first cap).run Try.prog w = .ok (.func fn first cap) w := fun _ _ _ _ => rfl
  have A := fun v hv => halve_s1 (.pointer (some ⟨w.heap.size + 1, 0, none⟩)) (.pointer (some ⟨w.heap.size, 0, none⟩)) (-32400000) 32400000 (fun m => decide (SI.siH (2 * m) ≤ x)) K hK (by decide) (by decide) (by decide) ask v hv
  have E : Hide (SI.sbL x = (SI.hv (fun m => decide (SI.siH (2 * m) ≤ x)) 27 (-32400000) 32400000).1) := ⟨rfl⟩
  generalize SI.hv (fun m => decide (SI.siH (2 * m) ≤ x)) 27 (-32400000) 32400000 = P at *
  obtain ⟨p, q⟩ := P
  simp only [] at *
  rw [E.out]
  clear E ask
  go_enter Try.func23, Try.ntmps23
  go_wp2_with fail
  refine (A _ h0).mono ?_
  rintro e w1 ⟨rfl, A1⟩
  go_wp2
  go_ret
  exact ⟨rfl, A1⟩
theorem backHigh_any (x : Int) (g : Fn) (fs cs : Array Value) (w : World) (K : Nat → World → Prop) (hK : ∀ k w, K (k + 1) w → K k w)
    (ask : ∀ (m : Int) (k : Nat) (w' : World), -32400000 ≤ m → m ≤ 32400000 → K (k + 1) w' → Calls Try.prog 41 #[.int .i64 m, .pointer (some ⟨w.heap.size + 1, 0, none⟩), .pointer (some ⟨w.heap.size, 0, none⟩)] w' fun e w'' => e = .returned (.bool (decide (SI.siL (2 * m) < x))) ∧ K k w'')
    (h0 : K 27 ((w.alloc (.cells #[.int .i64 x] 3)).alloc (.cells #[.func g fs cs] 41))) :
    Calls Try.prog 25 #[.int .i64 x, .func g fs cs] w fun e w' => e = .returned (.int .i64 (SI.sbH x)) ∧ K 0 w' := by
  have hmf : ∀ (fn : Fn) (first cap : Array Value) (w : World), (Instr.makeFunc fn first cap).run Try.prog w = .ok (.func fn first cap) w := fun _ _ _ _ => rfl
  have A := fun v hv => halve_s2 (.pointer (some ⟨w.heap.size + 1, 0, none⟩)) (.pointer (some ⟨w.heap.size, 0, none⟩)) (-32400000) 32400000 (fun m => decide (SI.siL (2 * m) < x)) K hK (by decide) (by decide) (by decide) ask v hv
  have E : Hide (SI.sbH x = (SI.hv (fun m => decide (SI.siL (2 * m) < x)) 27 (-32400000) 32400000).2) := ⟨rfl⟩
  generalize SI.hv (fun m => decide (SI.siL (2 * m) < x)) 27 (-32400000) 32400000 = P at *
  obtain ⟨p, q⟩ := P
  simp only [] at *
  rw [E.out]
  clear E ask
  go_enter Try.func25, Try.ntmps25
  go_wp2_with fail
  refine (A _ h0).mono ?_
  rintro e w1 ⟨rfl, A1⟩
  go_wp2
  go_ret
  exact ⟨rfl, A1⟩
theorem keptCell {x : Value} {b : Nat} : ∀ w w' : World, w.cell? ⟨b, 0, none⟩ = some x → Below w.heap.size w w' → w'.cell? ⟨b, 0, none⟩ = some x := fun _ _ h B => (B.cell (cell_lt h)).trans h
/-- A world behind 'w' in which the two captured variables stand. -/
structure Kb (w : World) (x : Int) (v : Value) (w' : World) : Prop where
  b : Below w.heap.size w w'
  c0 : w'.cell? ⟨w.heap.size, 0, none⟩ = some (.int .i64 x)
  c1 : w'.cell? ⟨w.heap.size + 1, 0, none⟩ = some v
theorem Kb.new (w : World) (x : Int) (v : Value) (t u : TypeId) : Kb w x v ((w.alloc (.cells #[.int .i64 x] t)).alloc (.cells #[v] u)) :=
  ⟨below_new2 _ _ _, by simp [go_sem], by simp [go_sem]⟩
theorem Kb.next {w w1 w2 : World} {x : Int} {v : Value} (k : Kb w x v w1) (b : Below w1.heap.size w1 w2) : Kb w x v w2 :=
  ⟨below1 k.b b, keptCell _ _ k.c0 b, keptCell _ _ k.c1 b⟩
theorem backLowS_any (x : Int) (w : World) : Calls Try.prog 23 #[.int .i64 x, .func (.func 24) #[] #[]] w fun e w' => e = .returned (.int .i64 (SI.sbL x)) ∧ Below w.heap.size w w' :=
  (backLow_any x _ _ _ w (fun _ => Kb w x _) (fun _ _ h => h) (fun m _ w' m0 m1 k => (ask1_any x m _ _ w' k.c1 k.c0 m0 m1).mono fun _ _ ⟨h1, h2⟩ => ⟨h1, k.next h2⟩) (Kb.new _ _ _ _ _)).mono fun _ _ ⟨h1, h2⟩ => ⟨h1, h2.b⟩
theorem backHighS_any (x : Int) (w : World) : Calls Try.prog 25 #[.int .i64 x, .func (.func 24) #[] #[]] w fun e w' => e = .returned (.int .i64 (SI.sbH x)) ∧ Below w.heap.size w w' :=
  (backHigh_any x _ _ _ w (fun _ => Kb w x _) (fun _ _ h => h) (fun m _ w' m0 m1 k => (ask2_any x m _ _ w' k.c1 k.c0 m0 m1).mono fun _ _ ⟨h1, h2⟩ => ⟨h1, k.next h2⟩) (Kb.new _ _ _ _ _)).mono fun _ _ ⟨h1, h2⟩ => ⟨h1, h2.b⟩
set_option maxHeartbeats 1000000 in
theorem sineBack_any (x : Int) (w : World) :
    Calls Try.prog 9 #[.int .i64 x] w fun e w' => e = .returned (.tuple #[spV (SM.sel (okU x) (SI.sbL x)) (SM.sel (okU x) (SI.sbH x)), .bool (okU x)]) ∧ Below w.heap.size w w' := by
  have K := fun w => isOne_any x w
  have hmf : ∀ (fn : Fn) (first cap : Array Value) (w : World), (Instr.makeFunc fn first cap).run Try.prog w = .ok (.func fn first cap) w := fun _ _ _ _ => rfl
  cases h : okU x
  · rw [h] at K
    go_enter Try.func9, Try.ntmps9
    go_wp2_with fail
    refine (K _).mono ?_
    rintro e w' ⟨rfl, rfl⟩
    go_wp2
    refine bodyPost_ret (v := .tuple #[.agg #[.int .i64 0, .int .i64 0], .bool false]) (by simp [results, Try.results9, go_sem]) rfl ⟨rfl, below_new _ _⟩
  · rw [h] at K
    simp only [SM.sel]
    have A := fun v => backLowS_any x v
    have C := fun v => backHighS_any x v
    generalize SI.sbL x = p at *
    generalize SI.sbH x = t at *
    have X := Box.new w 0 0 23
    have B := below_new w (.cells #[.int .i64 0, .int .i64 0] 23)
    go_enter Try.func9, Try.ntmps9
    go_wp2_with fail
    refine (K _).mono ?_
    rintro e w' ⟨rfl, rfl⟩
    clear K
    go_wp2_with fail
    refine (A _).mono ?_
    rintro e w1 ⟨rfl, B1⟩
    replace X := X.kept B1
    replace B := below1 B B1
    clear A B1
    go_wp2_with fail
    refine (C _).mono ?_
    rintro e w2 ⟨rfl, B2⟩
    obtain ⟨x0, x1, x2, x3⟩ := X.kept B2
    replace B := below1 B B2
    clear X C B2
    go_wp2
    refine bodyPost_ret (v := .tuple #[.agg #[.int .i64 p, .int .i64 t], .bool true]) (by simp [results, Try.results9, go_sem, *]) rfl ⟨rfl, ?_⟩
    exact below_set2 B (by omega) _ _
end SK
end Go.Proofs.Ytfdkpcejjcifgas
