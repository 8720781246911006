/-
  What the program's functions of chapter 13 return: halving by a question, angles of sines, and of places.
-/
import Derived.Test.YtgpnnaafialkjasSineImpl
import Derived.Test.YtgpnnaafialkjasBackWalks3
import Derived.WalkMore
namespace Go.Proofs.Ytgpnnaafialkjas
open Go.RowKit Go.Sort
set_option linter.unusedVariables false
namespace SK
theorem isOne_any (x : Int) (w : World) :
    Calls Try.prog 22 #[.int .i64 x] w fun e w' => e = .returned (.bool (okU x)) ∧ w' = w := by
  have N : ∀ w, Calls Try.prog 36 #[.int .i64 x, .int .i64 1000000000] w fun e w' => e = .returned (.bool (okU x)) ∧ w' = w := by
    intro w
    by_cases h1 : -1000000000 ≤ x
    · by_cases h2 : x ≤ 1000000000
      · have H : Hide (true = okU x) := ⟨(decide_eq_true ⟨h1, h2⟩).symm⟩
        go_enter Try.func36, Try.ntmps36
        go_wp2
        go_ret
        exact ⟨NW.ret_bool H.out, rfl⟩
      · have H : Hide (false = okU x) := ⟨(decide_eq_false (fun h => h2 h.2)).symm⟩
        go_enter Try.func36, Try.ntmps36
        go_wp2
        go_ret
        exact ⟨NW.ret_bool H.out, rfl⟩
    · have H : Hide (false = okU x) := ⟨(decide_eq_false (fun h => h1 h.1)).symm⟩
      go_enter Try.func36, Try.ntmps36
      go_wp2
      go_ret
      exact ⟨NW.ret_bool H.out, rfl⟩
  go_enter Try.func22, Try.ntmps22
  go_wp2_with fail
  refine (N _).mono ?_
  rintro e w' ⟨rfl, rfl⟩
  go_wp2
  go_ret
  exact ⟨rfl, rfl⟩
set_option maxHeartbeats 4000000 in
theorem halve_s1 (c : Value) (l h : Int) (f : Int → Bool) (K : World → Prop) (hK : ∀ w w', K w → Below w.heap.size w w' → K w') (hl : -32400000 ≤ l) (lh : l ≤ h) (hh : h ≤ 32400000)
    (ask : ∀ (m : Int) (w : World), l ≤ m → m ≤ h → K w → Calls Try.prog 24 #[.int .i64 m, c] w fun e w' => e = .returned (.bool (f m)) ∧ Below w.heap.size w w') (w : World) (hw : K w) :
    Calls Try.prog 23 #[.int .i64 l, .int .i64 h, .func (.func 24) #[] #[c]] w fun e w' => e = .returned (.tuple #[.int .i64 (SI.hv f 27 l h).1, .int .i64 (SI.hv f 27 l h).2]) ∧ Below w.heap.size w w' := by
  have fl : h - l ≤ (2 : Int) ^ 27 := by rw [show (2 : Int) ^ 27 = 134217728 from by decide +kernel]; omega
  obtain ⟨R, hR⟩ : ∃ R, SI.hv f 27 l h = R := ⟨_, rfl⟩
  rw [hR]
  have HR := Hide.mk hR
  have FL := Hide.mk fl
  clear hR fl
  go_enter Try.func23, Try.ntmps23
  go_wp2_with fail
  go_step3
  go_wp2_with fail
  go_step3
  go_wp2_with fail
  go_loopw [0, 1] (fun s1 s2 wr => ∃ (n : Nat) (lo hi : Int), s1 = .int .i64 lo ∧ s2 = .int .i64 hi ∧ SI.hv f n lo hi = R ∧ hi - lo ≤ (2 : Int) ^ n ∧ l ≤ lo ∧ lo ≤ hi ∧ hi ≤ h ∧ K wr ∧ Below w.heap.size w wr)
    (fun s1 s2 _ => (intOf s2 - intOf s1).toNat)
  case atStart => exact ⟨27, l, h, rfl, rfl, HR.out, FL.out, Int.le_refl _, lh, Int.le_refl _, hw, Below.refl _ _⟩
  case round =>
    obtain ⟨n, lo, hi, rfl, rfl, hv, fu, b0, b1, b2, A, B⟩ := hrel
    have HV := Hide.mk hv
    clear hv
    have D := fun w => NW.roundDown_any (lo + hi) 2 w (by omega) (by omega) (by omega) (by omega)
    by_cases g : 1 < hi - lo
    · obtain ⟨m, rfl, fm⟩ := fuel fu g
      obtain ⟨m1, m2⟩ := SI.mid_bd g
      have mb : 2 * NM.down (lo + hi) 2 ≤ lo + hi ∧ lo + hi ≤ 2 * NM.down (lo + hi) 2 + 1 := by unfold NM.down; omega
      obtain ⟨mb1, mb2⟩ := mb
      have F1 := Hide.mk (fm (hi - NM.down (lo + hi) 2) (by omega))
      have F2 := Hide.mk (fm (NM.down (lo + hi) 2 - lo) (by omega))
      have L := fun w => ask (NM.down (lo + hi) 2) w (by omega) (by omega)
      cases e : f (NM.down (lo + hi) 2)
      · have V := Hide.mk ((SI.hv_not (n := m) g e).symm.trans HV.out)
        rw [e] at L
        clear HV fu fm e
        generalize NM.down (lo + hi) 2 = mid at *
        go_wp2_with fail
        refine (D _).mono ?_
        rintro e w' ⟨rfl, rfl⟩
        go_wp2_with fail
        refine (L _ A).mono ?_
        rintro e w2 ⟨rfl, B2⟩
        go_wp2
        go_roundw
        case rel => exact ⟨m, lo, mid, rfl, rfl, V.out, F2.out, b0, by omega, by omega, hK _ _ A B2, below1 B B2⟩
        case measure => simp [intOf]; omega
      · have V := Hide.mk ((SI.hv_yes (n := m) g e).symm.trans HV.out)
        rw [e] at L
        clear HV fu fm e
        generalize NM.down (lo + hi) 2 = mid at *
        go_wp2_with fail
        refine (D _).mono ?_
        rintro e w' ⟨rfl, rfl⟩
        go_wp2_with fail
        refine (L _ A).mono ?_
        rintro e w2 ⟨rfl, B2⟩
        go_wp2
        go_roundw
        case rel => exact ⟨m, mid, hi, rfl, rfl, V.out, F1.out, by omega, by omega, b2, hK _ _ A B2, below1 B B2⟩
        case measure => simp [intOf]; omega
    · have E := SI.hv_end (f := f) (n := n) g
      rw [HV.out] at E
      subst E
      clear HV fu
      go_wp2_with fail
      refine (D _).mono ?_
      rintro e w' ⟨rfl, rfl⟩
      go_wp2
      rw [Exit.noGoto_ret]
      go_ret2
      exact ⟨rfl, B⟩
set_option maxHeartbeats 4000000 in
theorem halve_s2 (c : Value) (l h : Int) (f : Int → Bool) (K : World → Prop) (hK : ∀ w w', K w → Below w.heap.size w w' → K w') (hl : -32400000 ≤ l) (lh : l ≤ h) (hh : h ≤ 32400000)
    (ask : ∀ (m : Int) (w : World), l ≤ m → m ≤ h → K w → Calls Try.prog 26 #[.int .i64 m, c] w fun e w' => e = .returned (.bool (f m)) ∧ Below w.heap.size w w') (w : World) (hw : K w) :
    Calls Try.prog 23 #[.int .i64 l, .int .i64 h, .func (.func 26) #[] #[c]] w fun e w' => e = .returned (.tuple #[.int .i64 (SI.hv f 27 l h).1, .int .i64 (SI.hv f 27 l h).2]) ∧ Below w.heap.size w w' := by
  have fl : h - l ≤ (2 : Int) ^ 27 := by rw [show (2 : Int) ^ 27 = 134217728 from by decide +kernel]; omega
  obtain ⟨R, hR⟩ : ∃ R, SI.hv f 27 l h = R := ⟨_, rfl⟩
  rw [hR]
  have HR := Hide.mk hR
  have FL := Hide.mk fl
  clear hR fl
  go_enter Try.func23, Try.ntmps23
  go_wp2_with fail
  go_step3
  go_wp2_with fail
  go_step3
  go_wp2_with fail
  go_loopw [0, 1] (fun s1 s2 wr => ∃ (n : Nat) (lo hi : Int), s1 = .int .i64 lo ∧ s2 = .int .i64 hi ∧ SI.hv f n lo hi = R ∧ hi - lo ≤ (2 : Int) ^ n ∧ l ≤ lo ∧ lo ≤ hi ∧ hi ≤ h ∧ K wr ∧ Below w.heap.size w wr)
    (fun s1 s2 _ => (intOf s2 - intOf s1).toNat)
  case atStart => exact ⟨27, l, h, rfl, rfl, HR.out, FL.out, Int.le_refl _, lh, Int.le_refl _, hw, Below.refl _ _⟩
  case round =>
    obtain ⟨n, lo, hi, rfl, rfl, hv, fu, b0, b1, b2, A, B⟩ := hrel
    have HV := Hide.mk hv
    clear hv
    have D := fun w => NW.roundDown_any (lo + hi) 2 w (by omega) (by omega) (by omega) (by omega)
    by_cases g : 1 < hi - lo
    · obtain ⟨m, rfl, fm⟩ := fuel fu g
      obtain ⟨m1, m2⟩ := SI.mid_bd g
      have mb : 2 * NM.down (lo + hi) 2 ≤ lo + hi ∧ lo + hi ≤ 2 * NM.down (lo + hi) 2 + 1 := by unfold NM.down; omega
      obtain ⟨mb1, mb2⟩ := mb
      have F1 := Hide.mk (fm (hi - NM.down (lo + hi) 2) (by omega))
      have F2 := Hide.mk (fm (NM.down (lo + hi) 2 - lo) (by omega))
      have L := fun w => ask (NM.down (lo + hi) 2) w (by omega) (by omega)
      cases e : f (NM.down (lo + hi) 2)
      · have V := Hide.mk ((SI.hv_not (n := m) g e).symm.trans HV.out)
        rw [e] at L
        clear HV fu fm e
        generalize NM.down (lo + hi) 2 = mid at *
        go_wp2_with fail
        refine (D _).mono ?_
        rintro e w' ⟨rfl, rfl⟩
        go_wp2_with fail
        refine (L _ A).mono ?_
        rintro e w2 ⟨rfl, B2⟩
        go_wp2
        go_roundw
        case rel => exact ⟨m, lo, mid, rfl, rfl, V.out, F2.out, b0, by omega, by omega, hK _ _ A B2, below1 B B2⟩
        case measure => simp [intOf]; omega
      · have V := Hide.mk ((SI.hv_yes (n := m) g e).symm.trans HV.out)
        rw [e] at L
        clear HV fu fm e
        generalize NM.down (lo + hi) 2 = mid at *
        go_wp2_with fail
        refine (D _).mono ?_
        rintro e w' ⟨rfl, rfl⟩
        go_wp2_with fail
        refine (L _ A).mono ?_
        rintro e w2 ⟨rfl, B2⟩
        go_wp2
        go_roundw
        case rel => exact ⟨m, mid, hi, rfl, rfl, V.out, F1.out, by omega, by omega, b2, hK _ _ A B2, below1 B B2⟩
        case measure => simp [intOf]; omega
    · have E := SI.hv_end (f := f) (n := n) g
      rw [HV.out] at E
      subst E
      clear HV fu
      go_wp2_with fail
      refine (D _).mono ?_
      rintro e w' ⟨rfl, rfl⟩
      go_wp2
      rw [Exit.noGoto_ret]
      go_ret2
      exact ⟨rfl, B⟩
theorem ask1_any (x m : Int) (b : Nat) (w : World) (hc : w.cell? ⟨b, 0, none⟩ = some (.int .i64 x)) (m0 : -32400000 ≤ m) (m1 : m ≤ 32400000) :
    Calls Try.prog 24 #[.int .i64 m, .pointer (some ⟨b, 0, none⟩)] w fun e w' => e = .returned (.bool (decide (SI.siH (2 * m) ≤ x))) ∧ Below w.heap.size w w' := by
  have S := fun w => sineOfHalves_any (2 * m) w (by omega) (by omega)
  generalize SI.siL (2 * m) = p at *
  generalize SI.siH (2 * m) = q at *
  have k0 := cell_regrown hc
  have fl0 := field0
  have fl1 := field1
  have v1 : IntKind.i64.wrap (2 * m) = 2 * m := wrap_id (by omega) (by omega)
  have c1 : ∀ d os, Calls Try.prog 25 #[.int .i64 (2 * m)] (grow (redrawn w d) os) fun e w'' => e = .returned (spV p q) ∧ ∃ p : Regrown, w'' = grow (redrawn w p.d) p.os := fun d os => Calls.regrown_of (S _)
  go_enter Try.func24, Try.ntmps24
  go_wp2_with fail
  refine wp_region_quiet_below (by kernel_rfl) (by kernel_rfl) ?_
  repeat (quiet_step (fail))
  quiet_step (exact c1 _ _)
  repeat (quiet_step (fail))
  refine wpQuiet_nil ?_
  rintro _ ⟨pa, rfl⟩
  have B := below_regrown w pa.d pa.os
  go_wp2
  go_ret
  exact ⟨rfl, B⟩
theorem ask2_any (x m : Int) (b : Nat) (w : World) (hc : w.cell? ⟨b, 0, none⟩ = some (.int .i64 x)) (m0 : -32400000 ≤ m) (m1 : m ≤ 32400000) :
    Calls Try.prog 26 #[.int .i64 m, .pointer (some ⟨b, 0, none⟩)] w fun e w' => e = .returned (.bool (decide (SI.siL (2 * m) < x))) ∧ Below w.heap.size w w' := by
  have S := fun w => sineOfHalves_any (2 * m) w (by omega) (by omega)
  generalize SI.siL (2 * m) = p at *
  generalize SI.siH (2 * m) = q at *
  have k0 := cell_regrown hc
  have fl0 := field0
  have fl1 := field1
  have v1 : IntKind.i64.wrap (2 * m) = 2 * m := wrap_id (by omega) (by omega)
  have c1 : ∀ d os, Calls Try.prog 25 #[.int .i64 (2 * m)] (grow (redrawn w d) os) fun e w'' => e = .returned (spV p q) ∧ ∃ p : Regrown, w'' = grow (redrawn w p.d) p.os := fun d os => Calls.regrown_of (S _)
  go_enter Try.func26, Try.ntmps26
  go_wp2_with fail
  refine wp_region_quiet_below (by kernel_rfl) (by kernel_rfl) ?_
  repeat (quiet_step (fail))
  quiet_step (exact c1 _ _)
  repeat (quiet_step (fail))
  refine wpQuiet_nil ?_
  rintro _ ⟨pa, rfl⟩
  have B := below_regrown w pa.d pa.os
  go_wp2
  go_ret
  exact ⟨rfl, B⟩
theorem keptCell {x : Value} {b : Nat} : ∀ w w' : World, w.cell? ⟨b, 0, none⟩ = some x → Below w.heap.size w w' → w'.cell? ⟨b, 0, none⟩ = some x := fun _ _ h B => (B.cell (cell_lt h)).trans h
set_option maxHeartbeats 1000000 in
theorem sineBack_any (x : Int) (w : World) :
    Calls Try.prog 9 #[.int .i64 x] w fun e w' => e = .returned (.tuple #[spV (SM.sel (okU x) (SI.sbL x)) (SM.sel (okU x) (SI.sbH x)), .bool (okU x)]) ∧ Below w.heap.size w w' := by
  have K := fun w => isOne_any x w
  have hmf : ∀ (fn : Fn) (first cap : Array Value) (w : World), (Instr.makeFunc fn first cap).run Try.prog w = .ok (.func fn first cap) w := fun _ _ _ _ => rfl
  cases h : okU x
  · rw [h] at K
    go_enter Try.func9, Try.ntmps9
    go_wp2_with fail
    refine (K _).mono ?_
    rintro e w' ⟨rfl, rfl⟩
    go_wp2
    refine bodyPost_ret (v := .tuple #[.agg #[.int .i64 0, .int .i64 0], .bool false]) (by simp [results, Try.results9, go_sem]) rfl ⟨rfl, below_new2 _ _ _⟩
  · rw [h] at K
    simp only [SM.sel]
    have A := fun v (hc : v.cell? ⟨w.heap.size, 0, none⟩ = some (.int .i64 x)) => halve_s1 (.pointer (some ⟨w.heap.size, 0, none⟩)) (-32400000) 32400000 (fun m => decide (SI.siH (2 * m) ≤ x)) (fun v => v.cell? ⟨w.heap.size, 0, none⟩ = some (.int .i64 x)) keptCell (by decide) (by decide) (by decide) (fun m v a b hc => ask1_any x m _ v hc a b) v hc
    have C := fun v (hc : v.cell? ⟨w.heap.size, 0, none⟩ = some (.int .i64 x)) => halve_s2 (.pointer (some ⟨w.heap.size, 0, none⟩)) (-32400000) 32400000 (fun m => decide (SI.siL (2 * m) < x)) (fun v => v.cell? ⟨w.heap.size, 0, none⟩ = some (.int .i64 x)) keptCell (by decide) (by decide) (by decide) (fun m v a b hc => ask2_any x m _ v hc a b) v hc
    have E1 : Hide (SI.sbL x = (SI.hv (fun m => decide (SI.siH (2 * m) ≤ x)) 27 (-32400000) 32400000).1) := ⟨rfl⟩
    have E2 : Hide (SI.sbH x = (SI.hv (fun m => decide (SI.siL (2 * m) < x)) 27 (-32400000) 32400000).2) := ⟨rfl⟩
    generalize SI.hv (fun m => decide (SI.siH (2 * m) ≤ x)) 27 (-32400000) 32400000 = P at *
    generalize SI.hv (fun m => decide (SI.siL (2 * m) < x)) 27 (-32400000) 32400000 = Q at *
    obtain ⟨p, q⟩ := P
    obtain ⟨r, t⟩ := Q
    simp only [] at *
    rw [E1.out, E2.out]
    clear E1 E2
    have C0 : ((w.alloc (.cells #[.int .i64 x] 3)).alloc (.cells #[.int .i64 0, .int .i64 0] 23)).cell? ⟨w.heap.size, 0, none⟩ = some (.int .i64 x) := by simp [go_sem]
    have X0 := Box.new2 w (.cells #[.int .i64 x] 3) 0 0 23
    go_enter Try.func9, Try.ntmps9
    go_wp2_with fail
    refine (K _).mono ?_
    rintro e w' ⟨rfl, rfl⟩
    clear K
    go_wp2_with fail
    refine (A _ C0).mono ?_
    rintro e w1 ⟨rfl, B1⟩
    have X1 := X0.kept B1
    have C1 := keptCell _ _ C0 B1
    have B := below1 (below_new2 _ _ _) B1
    clear X0 C0 A B1
    go_wp2_with fail
    refine (C _ C1).mono ?_
    rintro e w2 ⟨rfl, B2⟩
    obtain ⟨x0, x1, x2, x3⟩ := X1.kept B2
    replace B := below1 B B2
    clear X1 C1 C B2
    go_wp2
    refine bodyPost_ret (v := .tuple #[.agg #[.int .i64 p, .int .i64 t], .bool true]) (by simp [results, Try.results9, go_sem, *]) rfl ⟨rfl, ?_⟩
    exact below_set2 B (by omega) _ _
end SK
end Go.Proofs.Ytgpnnaafialkjas
