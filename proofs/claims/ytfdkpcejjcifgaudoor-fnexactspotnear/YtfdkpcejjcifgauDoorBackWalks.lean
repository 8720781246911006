/-
  What the specification's functions of chapter 13 return: angles of sines.
-/
import Derived.Test.YtfdkpcejjcifgauDoorSineWalks2
import Derived.Test.YtfdkpcejjcifgauDoorSineBook
import Derived.Test.YtfdkpcejjcifgauDoorNumLaws
namespace Go.Proofs.YtfdkpcejjcifgauDoor
open Go.RowKit Go.Sort
set_option linter.unusedVariables false
namespace SK
/-- By what is halved, as a value. -/
abbrev askV (sine : Bool) (num up right : Int) (small : Bool) : Value := .agg #[.bool sine, .int .i64 num, .int .i64 up, .int .i64 right, .bool small]
/-- By what is halved, in a block. -/
structure Ask (w : World) (b : Nat) (sine : Bool) (num up right : Int) (small : Bool) : Prop where
  c0 : w.cell? ⟨b, 0, none⟩ = some (.bool sine)
  c1 : w.cell? ⟨b, 1, none⟩ = some (.int .i64 num)
  c2 : w.cell? ⟨b, 2, none⟩ = some (.int .i64 up)
  c3 : w.cell? ⟨b, 3, none⟩ = some (.int .i64 right)
  c4 : w.cell? ⟨b, 4, none⟩ = some (.bool small)
theorem Ask.kept {w w' : World} {b : Nat} {sine small : Bool} {num up right : Int} (h : Ask w b sine num up right small) (k : Below w.heap.size w w') : Ask w' b sine num up right small :=
  ⟨(k.cell (cell_lt h.c0)).trans h.c0, (k.cell (cell_lt h.c0)).trans h.c1, (k.cell (cell_lt h.c0)).trans h.c2, (k.cell (cell_lt h.c0)).trans h.c3, (k.cell (cell_lt h.c0)).trans h.c4⟩
theorem Ask.new (w : World) (sine small : Bool) (num up right : Int) (t : TypeId) : Ask (w.alloc (.cells #[.bool sine, .int .i64 num, .int .i64 up, .int .i64 right, .bool small] t)) w.heap.size sine num up right small :=
  ⟨by simp [go_sem], by simp [go_sem], by simp [go_sem], by simp [go_sem], by simp [go_sem]⟩
theorem Ask.alloc {w : World} {b : Nat} {sine small : Bool} {num up right : Int} (h : Ask w b sine num up right small) (o : Obj) : Ask (w.alloc o) b sine num up right small := h.kept (below_new _ _)
theorem lessS_any (num mid : Int) (small : Bool) (w : World) (m0 : -32400000 ≤ mid) (m1 : mid ≤ 32400000) :
    Calls Tryd.prog 58 #[askV true num 0 0 small, .int .i64 mid] w fun e w' => e = .returned (.bool (match small with | true => decide (SI.siL (2 * mid) < num) | false => decide (SI.siH (2 * mid) ≤ num))) ∧ Below w.heap.size w w' := by
  have S := fun w => l12Sine_any (2 * mid) w (by omega) (by omega)
  generalize SI.siL (2 * mid) = p at *
  generalize SI.siH (2 * mid) = q at *
  cases small
  all_goals go_enter Tryd.func58, Tryd.ntmps58
  all_goals go_wp2_with fail
  all_goals refine (S _).mono ?_
  all_goals rintro e w1 ⟨rfl, B1⟩
  · have A := ((Ask.new w true false num 0 0 54).kept B1).alloc (.cells #[.int .i64 p, .int .i64 q] 34)
    obtain ⟨a0, a1, a2, a3, a4⟩ := A
    go_wp2
    go_ret
    exact ⟨rfl, below1 (below1 (below_new _ _) B1) (below_new _ _)⟩
  · have A := ((Ask.new w true true num 0 0 54).kept B1).alloc (.cells #[.int .i64 p, .int .i64 q] 34)
    obtain ⟨a0, a1, a2, a3, a4⟩ := A
    go_wp2
    go_ret
    exact ⟨rfl, below1 (below1 (below_new _ _) B1) (below_new _ _)⟩
theorem fuel {n : Nat} {d : Int} (h : d ≤ (2 : Int) ^ n) (g : 1 < d) : ∃ m, n = m + 1 ∧ ∀ e : Int, 2 * e ≤ d + 1 → e ≤ (2 : Int) ^ m := by
  cases n with
  | zero => simp at h; omega
  | succ m =>
    refine ⟨m, rfl, fun e he => ?_⟩
    rw [Int.pow_succ] at h
    omega
set_option maxHeartbeats 4000000 in
theorem half_any (sine small : Bool) (num up right l h : Int) (f : Int → Bool) (hl : -32400000 ≤ l) (lh : l ≤ h) (hh : h ≤ 32400000)
    (less : ∀ (m : Int) (w : World), l ≤ m → m ≤ h → Calls Tryd.prog 58 #[askV sine num up right small, .int .i64 m] w fun e w' => e = .returned (.bool (f m)) ∧ Below w.heap.size w w') (w : World) :
    Calls Tryd.prog 33 #[askV sine num up right small, .int .i64 l, .int .i64 h] w fun e w' => e = .returned (spV (SI.hv f 27 l h).1 (SI.hv f 27 l h).2) ∧ Below w.heap.size w w' := by
  have fl : h - l ≤ (2 : Int) ^ 27 := by rw [show (2 : Int) ^ 27 = 134217728 from by decide +kernel]; omega
  obtain ⟨R, hR⟩ : ∃ R, SI.hv f 27 l h = R := ⟨_, rfl⟩
  rw [hR]
  have HR := Hide.mk hR
  have FL := Hide.mk fl
  clear hR fl
  go_enter Tryd.func33, Tryd.ntmps33
  go_wp2_with fail
  have A0 := (Ask.new w sine small num up right 54).alloc (.cells #[.int .i64 0, .int .i64 0] 25)
  have X0 := Box.new2 w (.cells #[.bool sine, .int .i64 num, .int .i64 up, .int .i64 right, .bool small] 54) 0 0 25
  go_loopw [1, 2] (fun s1 s2 wr => ∃ (n : Nat) (lo hi : Int), s1 = .int .i64 lo ∧ s2 = .int .i64 hi ∧ SI.hv f n lo hi = R ∧ hi - lo ≤ (2 : Int) ^ n ∧ l ≤ lo ∧ lo ≤ hi ∧ hi ≤ h ∧ Ask wr w.heap.size sine num up right small ∧ Box wr (w.heap.size + 1) 0 0 ∧ Below w.heap.size w wr)
    (fun s1 s2 _ => (intOf s2 - intOf s1).toNat)
  case atStart => exact ⟨27, l, h, rfl, rfl, HR.out, FL.out, Int.le_refl _, lh, Int.le_refl _, A0, X0, below_new2 _ _ _⟩
  case round =>
    clear A0 X0
    obtain ⟨n, lo, hi, rfl, rfl, hv, fu, b0, b1, b2, A, X, B⟩ := hrel
    have HV := Hide.mk hv
    clear hv
    by_cases g : 1 < hi - lo
    · obtain ⟨m, rfl, fm⟩ := fuel fu g
      obtain ⟨m1, m2⟩ := SI.mid_bd g
      have mb : 2 * NM.down (lo + hi) 2 ≤ lo + hi ∧ lo + hi ≤ 2 * NM.down (lo + hi) 2 + 1 := by unfold NM.down; omega
      obtain ⟨mb1, mb2⟩ := mb
      have F1 := Hide.mk (fm (hi - NM.down (lo + hi) 2) (by omega))
      have F2 := Hide.mk (fm (NM.down (lo + hi) 2 - lo) (by omega))
      have L := fun w => less (NM.down (lo + hi) 2) w (by omega) (by omega)
      cases e : f (NM.down (lo + hi) 2)
      · have V := Hide.mk ((SI.hv_not (n := m) g e).symm.trans HV.out)
        rw [e] at L
        have D := fun w => NW.l1Down_any (lo + hi) 2 w (by omega) (by omega) (by omega) (by omega)
        clear HV fu fm e
        generalize NM.down (lo + hi) 2 = mid at *
        have ⟨a0, a1, a2, a3, a4⟩ := A
        go_wp2_with fail
        refine (D _).mono ?_
        rintro e w' ⟨rfl, rfl⟩
        go_wp2_with fail
        refine (L _).mono ?_
        rintro e w2 ⟨rfl, B2⟩
        clear a0 a1 a2 a3 a4
        go_wp2
        go_roundw
        case rel => exact ⟨m, lo, mid, rfl, rfl, V.out, F2.out, b0, by omega, by omega, A.kept B2, X.kept B2, below1 B B2⟩
        case measure => simp [intOf]; omega
      · have V := Hide.mk ((SI.hv_yes (n := m) g e).symm.trans HV.out)
        rw [e] at L
        have D := fun w => NW.l1Down_any (lo + hi) 2 w (by omega) (by omega) (by omega) (by omega)
        clear HV fu fm e
        generalize NM.down (lo + hi) 2 = mid at *
        have ⟨a0, a1, a2, a3, a4⟩ := A
        go_wp2_with fail
        refine (D _).mono ?_
        rintro e w' ⟨rfl, rfl⟩
        go_wp2_with fail
        refine (L _).mono ?_
        rintro e w2 ⟨rfl, B2⟩
        clear a0 a1 a2 a3 a4
        go_wp2
        go_roundw
        case rel => exact ⟨m, mid, hi, rfl, rfl, V.out, F1.out, by omega, by omega, b2, A.kept B2, X.kept B2, below1 B B2⟩
        case measure => simp [intOf]; omega
    · have E := SI.hv_end (f := f) (n := n) g
      rw [HV.out] at E
      subst E
      obtain ⟨x0, x1, x2, x3⟩ := X
      clear HV fu
      go_wp2
      refine bodyPost_ret (v := .agg #[.int .i64 lo, .int .i64 hi]) (by simp [results, Tryd.results33, go_sem, *]) rfl ⟨rfl, ?_⟩
      exact below_set2 B (by omega) _ _
end SK
end Go.Proofs.YtfdkpcejjcifgauDoor
