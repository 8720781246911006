/-
  What the program's functions of chapter 13 return: halving by a question, angles of sines, and of places.
-/
import Derived.Test.YtfdkpcejjcifgauDoorSineImpl
import Derived.Test.YtfdkpcejjcifgauDoorBackWalks3
import Derived.WalkMore
namespace Go.Proofs.YtfdkpcejjcifgauDoor
open Go.RowKit Go.Sort
set_option linter.unusedVariables false
namespace SK
set_option maxHeartbeats 4000000 in
theorem halve_s1 (c d : Value) (l h : Int) (f : Int → Bool) (K : Nat → World → Prop) (hK : ∀ k w, K (k + 1) w → K k w) (hl : -32400000 ≤ l) (lh : l ≤ h) (hh : h ≤ 32400000)
    (ask : ∀ (m : Int) (k : Nat) (w : World), l ≤ m → m ≤ h → K (k + 1) w → Calls Tryd.prog 45 #[.int .i64 m, c, d] w fun e w' => e = .returned (.bool (f m)) ∧ K k w') (w : World) (hw : K 27 w) :
    Calls Tryd.prog 44 #[.int .i64 l, .int .i64 h, .func (.func 45) #[] #[c, d]] w fun e w' => e = .returned (.tuple #[.int .i64 (SI.hv f 27 l h).1, .int .i64 (SI.hv f 27 l h).2]) ∧ K 0 w' := by
  have fl : h - l ≤ (2 : Int) ^ 27 := by rw [show (2 : Int) ^ 27 = 134217728 from by decide +kernel]; omega
  obtain ⟨R, hR⟩ : ∃ R, SI.hv f 27 l h = R := ⟨_, rfl⟩
  rw [hR]
  have HR := Hide.mk hR
  have FL := Hide.mk fl
  clear hR fl
  have KZ : ∀ n w, K n w → K 0 w := fun n => by
    induction n with
    | zero => intro w h; exact h
    | succ n ih => intro w h; exact ih w (hK n w h)
  go_enter Tryd.func44, Tryd.ntmps44
  go_wp2_with fail
  go_step3
  go_wp2_with fail
  go_step3
  go_wp2_with fail
  go_loopw [0, 1] (fun s1 s2 wr => ∃ (n : Nat) (lo hi : Int), s1 = .int .i64 lo ∧ s2 = .int .i64 hi ∧ SI.hv f n lo hi = R ∧ hi - lo ≤ (2 : Int) ^ n ∧ l ≤ lo ∧ lo ≤ hi ∧ hi ≤ h ∧ K n wr)
    (fun s1 s2 _ => (intOf s2 - intOf s1).toNat)
  case atStart => exact ⟨27, l, h, rfl, rfl, HR.out, FL.out, Int.le_refl _, lh, Int.le_refl _, hw⟩
  case round =>
    obtain ⟨n, lo, hi, rfl, rfl, hv, fu, b0, b1, b2, A⟩ := hrel
    have HV := Hide.mk hv
    clear hv
    have D := fun w => NW.roundDown_any (lo + hi) 2 w (by omega) (by omega) (by omega) (by omega)
    by_cases g : 1 < hi - lo
    · obtain ⟨m, rfl, fm⟩ := fuel fu g
      obtain ⟨m1, m2⟩ := SI.mid_bd g
      have mb : 2 * NM.down (lo + hi) 2 ≤ lo + hi ∧ lo + hi ≤ 2 * NM.down (lo + hi) 2 + 1 := by unfold NM.down; omega
      obtain ⟨mb1, mb2⟩ := mb
      have F1 := Hide.mk (fm (hi - NM.down (lo + hi) 2) (by omega))
      have F2 := Hide.mk (fm (NM.down (lo + hi) 2 - lo) (by omega))
      have L := fun w => ask (NM.down (lo + hi) 2) m w (by omega) (by omega)
      cases e : f (NM.down (lo + hi) 2)
      · have V := Hide.mk ((SI.hv_not (n := m) g e).symm.trans HV.out)
        rw [e] at L
        clear HV fu fm e
        generalize NM.down (lo + hi) 2 = mid at *
        go_wp2_with fail
        refine (D _).mono ?_
        rintro e w' ⟨rfl, rfl⟩
        go_wp2_with fail
        refine (L _ A).mono ?_
        rintro e w2 ⟨rfl, A2⟩
        go_wp2
        go_roundw
        case rel => exact ⟨m, lo, mid, rfl, rfl, V.out, F2.out, b0, by omega, by omega, A2⟩
        case measure => simp [intOf]; omega
      · have V := Hide.mk ((SI.hv_yes (n := m) g e).symm.trans HV.out)
        rw [e] at L
        clear HV fu fm e
        generalize NM.down (lo + hi) 2 = mid at *
        go_wp2_with fail
        refine (D _).mono ?_
        rintro e w' ⟨rfl, rfl⟩
        go_wp2_with fail
        refine (L _ A).mono ?_
        rintro e w2 ⟨rfl, A2⟩
        go_wp2
        go_roundw
        case rel => exact ⟨m, mid, hi, rfl, rfl, V.out, F1.out, by omega, by omega, b2, A2⟩
        case measure => simp [intOf]; omega
    · have E := SI.hv_end (f := f) (n := n) g
      rw [HV.out] at E
      subst E
      clear HV fu
      go_wp2_with fail
      refine (D _).mono ?_
      rintro e w' ⟨rfl, rfl⟩
      go_wp2
      rw [Exit.noGoto_ret]
      go_ret2
      exact ⟨rfl, KZ _ _ A⟩
set_option maxHeartbeats 4000000 in
theorem halve_s2 (c d : Value) (l h : Int) (f : Int → Bool) (K : Nat → World → Prop) (hK : ∀ k w, K (k + 1) w → K k w) (hl : -32400000 ≤ l) (lh : l ≤ h) (hh : h ≤ 32400000)
    (ask : ∀ (m : Int) (k : Nat) (w : World), l ≤ m → m ≤ h → K (k + 1) w → Calls Tryd.prog 47 #[.int .i64 m, c, d] w fun e w' => e = .returned (.bool (f m)) ∧ K k w') (w : World) (hw : K 27 w) :
    Calls Tryd.prog 44 #[.int .i64 l, .int .i64 h, .func (.func 47) #[] #[c, d]] w fun e w' => e = .returned (.tuple #[.int .i64 (SI.hv f 27 l h).1, .int .i64 (SI.hv f 27 l h).2]) ∧ K 0 w' := by
  have fl : h - l ≤ (2 : Int) ^ 27 := by rw [show (2 : Int) ^ 27 = 134217728 from by decide +kernel]; omega
  obtain ⟨R, hR⟩ : ∃ R, SI.hv f 27 l h = R := ⟨_, rfl⟩
  rw [hR]
  have HR := Hide.mk hR
  have FL := Hide.mk fl
  clear hR fl
  have KZ : ∀ n w, K n w → K 0 w := fun n => by
    induction n with
    | zero => intro w h; exact h
    | succ n ih => intro w h; exact ih w (hK n w h)
  go_enter Tryd.func44, Tryd.ntmps44
  go_wp2_with fail
  go_step3
  go_wp2_with fail
  go_step3
  go_wp2_with fail
  go_loopw [0, 1] (fun s1 s2 wr => ∃ (n : Nat) (lo hi : Int), s1 = .int .i64 lo ∧ s2 = .int .i64 hi ∧ SI.hv f n lo hi = R ∧ hi - lo ≤ (2 : Int) ^ n ∧ l ≤ lo ∧ lo ≤ hi ∧ hi ≤ h ∧ K n wr)
    (fun s1 s2 _ => (intOf s2 - intOf s1).toNat)
  case atStart => exact ⟨27, l, h, rfl, rfl, HR.out, FL.out, Int.le_refl _, lh, Int.le_refl _, hw⟩
  case round =>
    obtain ⟨n, lo, hi, rfl, rfl, hv, fu, b0, b1, b2, A⟩ := hrel
    have HV := Hide.mk hv
    clear hv
    have D := fun w => NW.roundDown_any (lo + hi) 2 w (by omega) (by omega) (by omega) (by omega)
    by_cases g : 1 < hi - lo
    · obtain ⟨m, rfl, fm⟩ := fuel fu g
      obtain ⟨m1, m2⟩ := SI.mid_bd g
      have mb : 2 * NM.down (lo + hi) 2 ≤ lo + hi ∧ lo + hi ≤ 2 * NM.down (lo + hi) 2 + 1 := by unfold NM.down; omega
      obtain ⟨mb1, mb2⟩ := mb
      have F1 := Hide.mk (fm (hi - NM.down (lo + hi) 2) (by omega))
      have F2 := Hide.mk (fm (NM.down (lo + hi) 2 - lo) (by omega))
      have L := fun w => ask (NM.down (lo + hi) 2) m w (by omega) (by omega)
      cases e : f (NM.down (lo + hi) 2)
      · have V := Hide.mk ((SI.hv_not (n := m) g e).symm.trans HV.out)
        rw [e] at L
        clear HV fu fm e
        generalize NM.down (lo + hi) 2 = mid at *
        go_wp2_with fail
        refine (D _).mono ?_
        rintro e w' ⟨rfl, rfl⟩
        go_wp2_with fail
        refine (L _ A).mono ?_
        rintro e w2 ⟨rfl, A2⟩
        go_wp2
        go_roundw
        case rel => exact ⟨m, lo, mid, rfl, rfl, V.out, F2.out, b0, by omega, by omega, A2⟩
        case measure => simp [intOf]; omega
      · have V := Hide.mk ((SI.hv_yes (n := m) g e).symm.trans HV.out)
        rw [e] at L
        clear HV fu fm e
        generalize NM.down (lo + hi) 2 = mid at *
        go_wp2_with fail
        refine (D _).mono ?_
        rintro e w' ⟨rfl, rfl⟩
        go_wp2_with fail
        refine (L _ A).mono ?_
        rintro e w2 ⟨rfl, A2⟩
        go_wp2
        go_roundw
        case rel => exact ⟨m, mid, hi, rfl, rfl, V.out, F1.out, by omega, by omega, b2, A2⟩
        case measure => simp [intOf]; omega
    · have E := SI.hv_end (f := f) (n := n) g
      rw [HV.out] at E
      subst E
      clear HV fu
      go_wp2_with fail
      refine (D _).mono ?_
      rintro e w' ⟨rfl, rfl⟩
      go_wp2
      rw [Exit.noGoto_ret]
      go_ret2
      exact ⟨rfl, KZ _ _ A⟩
theorem backLow_any (x : Int) (g : Fn) (fs cs : Array Value) (w : World) (K : Nat → World → Prop) (hK : ∀ k w, K (k + 1) w → K k w)
    (ask : ∀ (m : Int) (k : Nat) (w' : World), -32400000 ≤ m → m ≤ 32400000 → K (k + 1) w' → Calls Tryd.prog 45 #[.int .i64 m, .pointer (some ⟨w.heap.size + 1, 0, none⟩), .pointer (some ⟨w.heap.size, 0, none⟩)] w' fun e w'' => e = .returned (.bool (decide (SI.siH (2 * m) ≤ x))) ∧ K k w'')
    (h0 : K 27 ((w.alloc (.cells #[.int .i64 x] 3)).alloc (.cells #[.func g fs cs] 44))) :
    Calls Tryd.prog 17 #[.int .i64 x, .func g fs cs] w fun e w' => e = .returned (.int .i64 (SI.sbL x)) ∧ K 0 w' := by
  have hmf : ∀ (fn : Fn) (first cap : Array Value) (w : World), (Instr.makeFunc fn first cap).run Tryd.prog w = .ok (.func fn first cap) w := fun _ _ _ _ => rfl
  have A := fun v hv => halve_s1 (.pointer (some ⟨w.heap.size + 1, 0, none⟩)) (.pointer (some ⟨w.heap.size, 0, none⟩)) (-32400000) 32400000 (fun m => decide (SI.siH (2 * m) ≤ x)) K hK (by decide) (by decide) (by decide) ask v hv
  have E : Hide (SI.sbL x = (SI.hv (fun m => decide (SI.siH (2 * m) ≤ x)) 27 (-32400000) 32400000).1) := ⟨rfl⟩
  generalize SI.hv (fun m => decide (SI.siH (2 * m) ≤ x)) 27 (-32400000) 32400000 = P at *
  obtain ⟨p, q⟩ := P
  simp only [] at *
  rw [E.out]
  clear E ask
  go_enter Tryd.func17, Tryd.ntmps17
  go_wp2_with fail
  refine (A _ h0).mono ?_
  rintro e w1 ⟨rfl, A1⟩
  go_wp2
  go_ret
  exact ⟨rfl, A1⟩
theorem backHigh_any (x : Int) (g : Fn) (fs cs : Array Value) (w : World) (K : Nat → World → Prop) (hK : ∀ k w, K (k + 1) w → K k w)
    (ask : ∀ (m : Int) (k : Nat) (w' : World), -32400000 ≤ m → m ≤ 32400000 → K (k + 1) w' → Calls Tryd.prog 47 #[.int .i64 m, .pointer (some ⟨w.heap.size + 1, 0, none⟩), .pointer (some ⟨w.heap.size, 0, none⟩)] w' fun e w'' => e = .returned (.bool (decide (SI.siL (2 * m) < x))) ∧ K k w'')
    (h0 : K 27 ((w.alloc (.cells #[.int .i64 x] 3)).alloc (.cells #[.func g fs cs] 44))) :
    Calls Tryd.prog 19 #[.int .i64 x, .func g fs cs] w fun e w' => e = .returned (.int .i64 (SI.sbH x)) ∧ K 0 w' := by
  have hmf : ∀ (fn : Fn) (first cap : Array Value) (w : World), (Instr.makeFunc fn first cap).run Tryd.prog w = .ok (.func fn first cap) w := fun _ _ _ _ => rfl
  have A := fun v hv => halve_s2 (.pointer (some ⟨w.heap.size + 1, 0, none⟩)) (.pointer (some ⟨w.heap.size, 0, none⟩)) (-32400000) 32400000 (fun m => decide (SI.siL (2 * m) < x)) K hK (by decide) (by decide) (by decide) ask v hv
  have E : Hide (SI.sbH x = (SI.hv (fun m => decide (SI.siL (2 * m) < x)) 27 (-32400000) 32400000).2) := ⟨rfl⟩
  generalize SI.hv (fun m => decide (SI.siL (2 * m) < x)) 27 (-32400000) 32400000 = P at *
  obtain ⟨p, q⟩ := P
  simp only [] at *
  rw [E.out]
  clear E ask
  go_enter Tryd.func19, Tryd.ntmps19
  go_wp2_with fail
  refine (A _ h0).mono ?_
  rintro e w1 ⟨rfl, A1⟩
  go_wp2
  go_ret
  exact ⟨rfl, A1⟩
end SK
end Go.Proofs.YtfdkpcejjcifgauDoor
