/-
  What the specification's functions of chapter 12 return: arcs, rows, sines of small arcs.
-/
import Derived.Test.YtlkompbigpbefabSineKit
import Derived.Test.YtlkompbigpbefabSineBook
import Derived.Test.YtlkompbigpbefabQuietTail
namespace Go.Proofs.Ytlkompbigpbefab
open Go.RowKit Go.Sort
set_option linter.unusedVariables false
namespace SK
theorem l12Arc_any (h : Int) (w : World) (h0 : 0 ≤ h) (h1 : h ≤ 32400000) :
    Calls Try.prog 99 #[.int .i64 h] w fun e w' => e = .returned (spV (SI.aL h) (SI.aH h)) ∧ Below w.heap.size w w' := by
  go_enter Try.func99, Try.ntmps99
  go_wp2_with fail
  refine (NW.l1Down_any _ _ _ (by omega) (by omega) (by omega) (by omega)).mono ?_
  rintro e w' ⟨rfl, rfl⟩
  go_wp2_with fail
  refine (NW.l1Up_any _ _ _ (by omega) (by omega) (by omega) (by omega)).mono ?_
  rintro e w' ⟨rfl, rfl⟩
  go_wp2
  refine bodyPost_ret (v := .agg #[.int .i64 (SI.aL h), .int .i64 (SI.aH h)]) (by simp [results, Try.results99, go_sem, SI.aL, SI.aH]) rfl ⟨rfl, ?_⟩
  exact below_new _ _
theorem timesD_any (a b : Int) (w : World) (a0 : 0 ≤ a) (a1 : a ≤ 1000000000) (b0 : 0 ≤ b) (b1 : b ≤ 1000000000) :
    Calls Try.prog 102 #[.int .i64 a, .int .i64 b, .bool false] w fun e w' => e = .returned (.int .i64 (SI.tD a b)) ∧ w' = w := by
  obtain ⟨m0, m1, _⟩ := SI.tt_bd a0 a1 b0 b1
  go_enter Try.func102, Try.ntmps102
  go_wp2_with fail
  refine (NW.l1Down_any _ _ _ (by omega) (by omega) (by omega) (by omega)).mono ?_
  rintro e w' ⟨rfl, rfl⟩
  go_wp2
  go_ret
  exact ⟨rfl, rfl⟩
theorem timesU_any (a b : Int) (w : World) (a0 : 0 ≤ a) (a1 : a ≤ 1000000000) (b0 : 0 ≤ b) (b1 : b ≤ 1000000000) :
    Calls Try.prog 102 #[.int .i64 a, .int .i64 b, .bool true] w fun e w' => e = .returned (.int .i64 (SI.tU a b)) ∧ w' = w := by
  obtain ⟨m0, m1, _⟩ := SI.tt_bd a0 a1 b0 b1
  go_enter Try.func102, Try.ntmps102
  go_wp2_with fail
  refine (NW.l1Up_any _ _ _ (by omega) (by omega) (by omega) (by omega)).mono ?_
  rintro e w' ⟨rfl, rfl⟩
  go_wp2
  go_ret
  exact ⟨rfl, rfl⟩
theorem overD_any (a b : Int) (w : World) (a0 : 0 ≤ a) (a1 : a ≤ 1000000000) (b0 : 1 ≤ b) (b1 : b ≤ 1000000000) :
    Calls Try.prog 101 #[.int .i64 a, .int .i64 b, .bool false] w fun e w' => e = .returned (.int .i64 (NM.down a b)) ∧ w' = w := by
  go_enter Try.func101, Try.ntmps101
  go_wp2_with fail
  refine (NW.l1Down_any _ _ _ (by omega) (by omega) (by omega) (by omega)).mono ?_
  rintro e w' ⟨rfl, rfl⟩
  go_wp2
  go_ret
  exact ⟨rfl, rfl⟩
theorem overU_any (a b : Int) (w : World) (a0 : 0 ≤ a) (a1 : a ≤ 1000000000) (b0 : 1 ≤ b) (b1 : b ≤ 1000000000) :
    Calls Try.prog 101 #[.int .i64 a, .int .i64 b, .bool true] w fun e w' => e = .returned (.int .i64 (NM.up a b)) ∧ w' = w := by
  go_enter Try.func101, Try.ntmps101
  go_wp2_with fail
  refine (NW.l1Up_any _ _ _ (by omega) (by omega) (by omega) (by omega)).mono ?_
  rintro e w' ⟨rfl, rfl⟩
  go_wp2
  go_ret
  exact ⟨rfl, rfl⟩
set_option maxHeartbeats 4000000 in
theorem l12Row_any (first x n0 : Int) (f0 : 0 ≤ first) (f1 : first ≤ 1000000000) (x0 : 0 ≤ x) (x1 : x ≤ 1000000000) (hn : 1 ≤ n0) (hn2 : n0 < 40) (w : World) :
    Calls Try.prog 100 #[.int .i64 first, .int .i64 x, .int .i64 n0] w fun e w' => e = .returned (spV (SI.row 21 first first first first true x n0).1 (SI.row 21 first first first first true x n0).2) ∧ Below w.heap.size w w' := by
  obtain ⟨R, hR⟩ : ∃ R, SI.row 21 first first first first true x n0 = R := ⟨_, rfl⟩
  rw [hR]
  have HR : Hide (SI.row 21 first first first first true x n0 = R) := ⟨hR⟩
  clear hR
  have s0 := SI.still0 first x n0
  obtain ⟨_, _, p1, p2, p3, p4⟩ := SI.tt_bd x0 x1 x0 x1
  go_enter Try.func100, Try.ntmps100
  go_wp2_with fail
  go_loopw [2, 7, 8, 9, 10, 11] (fun s2 s7 s8 s9 s10 s11 wr => ∃ k : Nat, s2 = .int .i64 (SI.nn n0 k) ∧ s7 = .int .i64 (SI.ll first x n0 k) ∧ s8 = .int .i64 (SI.hh first x n0 k) ∧ s9 = .int .i64 (SI.dd first x n0 k) ∧ s10 = .int .i64 (SI.uu first x n0 k) ∧ s11 = .bool (SI.les k) ∧ SI.Still first x n0 k ∧ wr = w.alloc (.cells #[.int .i64 0, .int .i64 0] 58))
    (fun s2 _ _ _ _ _ _ => (40 - intOf s2).toNat)
  case atStart => exact ⟨0, by rw [SI.nn0], rfl, rfl, rfl, rfl, rfl, s0, rfl⟩
  case round =>
    clear s0
    obtain ⟨k, rfl, rfl, rfl, rfl, rfl, rfl, st, rfl⟩ := hrel
    have hn1 : 1 ≤ SI.nn n0 k := by unfold SI.nn; omega
    obtain ⟨d0, d1, u0, u1⟩ := SI.tm f0 f1 x0 x1 hn k
    obtain ⟨S1, S2, S3, S4⟩ := SI.sum_bd f0 f1 x0 x1 hn k
    have k20 := st.1
    by_cases hg : SI.goes first x n0 k
    · have g1 := hg.1
      have g2 := hg.2
      have up : 0 < SI.uu first x n0 k := by omega
      have on := fun s => SI.still_on hn st hg u0 s
      have stop := fun s => SI.still_stop st hg u0 s
      obtain ⟨e0, e1, v0, v1⟩ := SI.tm f0 f1 x0 x1 hn (k + 1)
      have N : Hide (SI.nn n0 (k + 1) = SI.nn n0 k + 2) := ⟨SI.nn_succ n0 k⟩
      have D : Hide (SI.dd first x n0 (k + 1) = NM.down (SI.tD (SI.dd first x n0 k) (SI.tD x x)) (SI.nn n0 k * (SI.nn n0 k + 1))) := ⟨SI.dd_succ first x n0 k⟩
      have U : Hide (SI.uu first x n0 (k + 1) = NM.up (SI.tU (SI.uu first x n0 k) (SI.tU x x)) (SI.nn n0 k * (SI.nn n0 k + 1))) := ⟨SI.uu_succ first x n0 k⟩
      have nl : Hide (SI.ll first x n0 (k + 1) = match SI.les k with | true => SI.ll first x n0 k - SI.uu first x n0 (k + 1) | false => SI.ll first x n0 k + SI.dd first x n0 (k + 1)) := ⟨rfl⟩
      have nh : Hide (SI.hh first x n0 (k + 1) = match SI.les k with | true => SI.hh first x n0 k - SI.dd first x n0 (k + 1) | false => SI.hh first x n0 k + SI.uu first x n0 (k + 1)) := ⟨rfl⟩
      have ne : Hide (SI.les (k + 1) = !SI.les k) := ⟨rfl⟩
      have M := SI.mm_bd hn1 g2
      obtain ⟨m0, m1⟩ := M
      obtain ⟨_, _, q1, q2, _, _⟩ := SI.tt_bd d0 d1 p1 p2
      obtain ⟨_, _, _, _, q3, q4⟩ := SI.tt_bd u0 u1 p3 p4
      clear g1 hg st
      generalize SI.nn n0 k = n at *
      generalize SI.dd first x n0 k = d at *
      generalize SI.uu first x n0 k = u at *
      generalize SI.ll first x n0 k = L at *
      generalize SI.hh first x n0 k = H at *
      have c1 := fun w => timesD_any x x w x0 x1 x0 x1
      have c3 := fun w => timesU_any x x w x0 x1 x0 x1
      generalize SI.tD x x = q at *
      generalize SI.tU x x = r at *
      have c2 := fun w => timesD_any d q w d0 d1 p1 p2
      have c4 := fun w => timesU_any u r w u0 u1 p3 p4
      generalize SI.tD d q = q' at *
      generalize SI.tU u r = r' at *
      have c5 := fun w => overD_any q' (n * (n + 1)) w q1 q2 (by omega) (by omega)
      have c6 := fun w => overU_any r' (n * (n + 1)) w q3 q4 (by omega) (by omega)
      rw [← D.out] at c5
      rw [← U.out] at c6
      obtain ⟨d2, E2⟩ : ∃ d2, SI.dd first x n0 (k + 1) = d2 := ⟨_, rfl⟩
      obtain ⟨u2, F2⟩ : ∃ u2, SI.uu first x n0 (k + 1) = u2 := ⟨_, rfl⟩
      rw [E2] at c5 e0 e1
      rw [F2] at c6 v0 v1
      rw [E2, F2] at nl nh
      rw [F2, E2] at on stop
      have Hd := Hide.mk E2
      have Hu := Hide.mk F2
      clear E2 F2 D U
      go_wp2_with fail
      refine (c1 _).mono ?_
      rintro e w' ⟨rfl, rfl⟩
      go_wp2_with fail
      refine (c2 _).mono ?_
      rintro e w' ⟨rfl, rfl⟩
      go_wp2_with fail
      refine (c5 _).mono ?_
      rintro e w' ⟨rfl, rfl⟩
      go_wp2_with fail
      refine (c3 _).mono ?_
      rintro e w' ⟨rfl, rfl⟩
      go_wp2_with fail
      refine (c4 _).mono ?_
      rintro e w' ⟨rfl, rfl⟩
      go_wp2_with fail
      refine (c6 _).mono ?_
      rintro e w' ⟨rfl, rfl⟩
      clear c1 c2 c3 c4 c5 c6
      by_cases sp : u2 = 1 ∧ d2 = 0
      · have E := stop sp
        obtain ⟨rfl, rfl⟩ := sp
        clear on stop
        go_wp2
        refine bodyPost_ret (v := .agg #[.int .i64 (L - 1), .int .i64 (H + 1)]) (by simp [results, Try.results100, go_sem]) rfl ⟨?_, ?_⟩
        · rw [← HR.out, E]
        · exact below_new _ _
      · have st2 := on sp
        clear on stop
        rcases (show ¬ u2 = 1 ∨ (u2 = 1 ∧ ¬ d2 = 0) by omega) with hd | ⟨rfl, hd⟩
        all_goals clear sp
        all_goals cases hl : SI.les k
        all_goals rw [hl] at nl nh ne
        all_goals go_wp2
        all_goals go_roundw
        all_goals first
          | (simp [intOf]; omega)
          | exact ⟨k + 1, by rw [N.out], by rw [nl.out], by rw [nh.out], by rw [Hd.out], by rw [Hu.out], by rw [ne.out]; rfl, st2, trivial⟩
    · have E := SI.still_end st hg
      have hs : Hide (¬ (0 < SI.uu first x n0 k ∧ SI.nn n0 k < 40)) := ⟨fun c => hg ⟨by omega, c.2⟩⟩
      generalize SI.ll first x n0 k = L at *
      generalize SI.hh first x n0 k = H at *
      by_cases g1 : 0 < SI.uu first x n0 k
      · have g2 : ¬ SI.nn n0 k < 40 := fun c => hs.out ⟨g1, c⟩
        clear st hg
        go_wp2
        refine bodyPost_ret (v := .agg #[.int .i64 L, .int .i64 H]) (by simp [results, Try.results100, go_sem]) rfl ⟨?_, ?_⟩
        · rw [← HR.out, E]
        · exact below_new _ _
      · clear st hg
        go_wp2
        refine bodyPost_ret (v := .agg #[.int .i64 L, .int .i64 H]) (by simp [results, Try.results100, go_sem]) rfl ⟨?_, ?_⟩
        · rw [← HR.out, E]
        · exact below_new _ _
end SK
end Go.Proofs.Ytlkompbigpbefab
