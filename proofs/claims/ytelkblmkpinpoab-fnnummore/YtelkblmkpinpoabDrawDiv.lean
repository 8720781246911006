/-
  What the draws of chapter 1's arguments return: numbers, whatever the code.
-/
import Derived.Test.YtelkblmkpinpoabRows
import Derived.Test.YtelkblmkpinpoabDrawKit
import Derived.Test.YtelkblmkpinpoabDrawWalks
import Derived.Test.YtelkblmkpinpoabDrawBig
import Derived.Test.YtelkblmkpinpoabDrawNum
import Derived.WalkKit
import Derived.Below
import Derived.Deep.RegionWith
namespace Go.Proofs.Ytelkblmkpinpoab
open Go.RowKit
set_option linter.unusedVariables false

namespace DW
open DK

set_option maxHeartbeats 4000000 in
theorem l71Divided_any (w : World) (k p : Nat) (hp : p ≤ 800000000) (h : Rd w k p) :
    Calls Try.prog 13 #[.pointer (some ⟨k, 0, none⟩)] w fun e w' => ∃ a b : Int, ∃ p' : Nat, e = .returned (.tuple #[.int .i64 a, .int .i64 b]) ∧ p' ≤ p + 50 ∧ Rd w' k p' ∧ Tch k w.heap.size w w' := by
  go_enter Try.func13, Try.ntmps13
  go_wp2_with fail
  refine (l71Big_any _ k p _ (by omega) h (by omega) (by omega)).mono ?_
  rintro e w1 ⟨x, p1, rfl, x0, x1, q1, R1, T1⟩
  go_wp2_with fail
  refine (l71Big_any _ k p1 _ (by omega) R1 (by omega) (by omega)).mono ?_
  rintro e w2 ⟨y, p2, rfl, y0, y1, q2, R2, T2⟩
  replace T2 := T1.trans (T2.mono T1.size)
  clear h R1 T1
  go_wp2_with fail
  all_goals
    refine (pick_any _ k p2 _ (by omega) R2).mono ?_
    rintro e w3 ⟨t, rfl, t0, t1, R3, T3⟩
    replace t1 := t1 (by omega)
    replace T3 := T2.trans (T3.mono T2.size)
    clear R2 T2
    rcases (show t = 0 ∨ t = 1 ∨ t = 2 ∨ t = 3 ∨ t = 4 ∨ 5 ≤ t by omega) with rfl | rfl | rfl | rfl | rfl | t2
    · go_wp2_with fail
      refine (pick_any _ k _ _ (by omega) R3).mono ?_
      rintro e w4 ⟨u, rfl, u0, u1, R4, T4⟩
      replace u1 := u1 (by omega)
      replace T4 := T3.trans (T4.mono T3.size)
      go_wp2_with fail
      refine (l71Big_any _ k _ _ (by omega) R4 (by omega) (by omega)).mono ?_
      rintro e w5 ⟨z, p5, rfl, z0, z1, q5, R5, T5⟩
      go_wp2_with fail
      go_ret2
      exact ⟨_, _, _, rfl, by omega, R5, T4.trans (T5.mono T4.size)⟩
    · go_wp2_with fail
      refine (pick_any _ k _ _ (by omega) R3).mono ?_
      rintro e w4 ⟨u, rfl, u0, u1, R4, T4⟩
      replace u1 := u1 (by omega)
      replace T4 := T3.trans (T4.mono T3.size)
      go_wp2_with fail
      refine (l71Big_any _ k _ _ (by omega) R4 (by omega) (by omega)).mono ?_
      rintro e w5 ⟨z, p5, rfl, z0, z1, q5, R5, T5⟩
      go_wp2_with fail
      go_ret2
      exact ⟨_, _, _, rfl, by omega, R5, T4.trans (T5.mono T4.size)⟩
    · go_wp2_with fail
      refine (pick_any _ k _ _ (by omega) R3).mono ?_
      rintro e w4 ⟨u, rfl, u0, u1, R4, T4⟩
      replace u1 := u1 (by omega)
      replace T4 := T3.trans (T4.mono T3.size)
      go_wp2_with fail
      refine (l71Big_any _ k _ _ (by omega) R4 (by omega) (by omega)).mono ?_
      rintro e w5 ⟨z, p5, rfl, z0, z1, q5, R5, T5⟩
      go_wp2_with fail
      go_ret2
      exact ⟨_, _, _, rfl, by omega, R5, T4.trans (T5.mono T4.size)⟩
    · go_wp2_with fail
      refine (pick_any _ k _ _ (by omega) R3).mono ?_
      rintro e w4 ⟨u, rfl, u0, u1, R4, T4⟩
      replace u1 := u1 (by omega)
      replace T4 := T3.trans (T4.mono T3.size)
      go_wp2_with fail
      refine (pick_any _ k _ _ (by omega) R4).mono ?_
      rintro e w5 ⟨s, rfl, s0, s1, R5, T5⟩
      replace s1 := s1 (by omega)
      replace T5 := T4.trans (T5.mono T4.size)
      go_wp2_with fail
      refine (pick_any _ k _ _ (by omega) R5).mono ?_
      rintro e w6 ⟨r, rfl, r0, r1, R6, T6⟩
      replace r1 := r1 (by omega)
      go_wp2_with fail
      go_ret2
      exact ⟨_, _, _, rfl, by omega, R6, T5.trans (T6.mono T5.size)⟩
    · have hk := R3.lt
      have hn3 : ¬ w3.heap.size = k := by omega
      have hm3 : ¬ w3.heap.size + 1 = k := by omega
      go_wp2_with fail
      have hq1 : p2 + 1 ≤ 1000000000 := by omega
      have hq2 : p2 + 1 + 1 ≤ 1000000000 := by omega
      have o3 : (1 : Int) ≤ 3 := by omega
      have o4 : (1 : Int) ≤ 4 := by omega
      go_region_with (first
        | (go_at_call_of 14 (Value.int .i64 3); refine (pick_n _ k (p2 + 1) _ hq1 o3 ?_).mono ?_; (repeat (first | with_reducible exact R3 | with_reducible apply Rd.drew | with_reducible apply Rd.drewN | with_reducible apply Rd.alloc)); rintro e w' ⟨u, m4, rfl, u0, u1, rfl⟩; obtain ⟨zu, hzu, eu⟩ := at3 1152921504606846977 (-1152921504606846977) 5 u0 u1)
        | (go_at_call_of 14 (Value.int .i64 4); refine (pick_n _ k (p2 + 1 + 1) _ hq2 o4 ?_).mono ?_; (repeat (first | with_reducible exact R3 | with_reducible apply Rd.drew | with_reducible apply Rd.drewN | with_reducible apply Rd.alloc | (refine Rd.set (p := p2 + 1) ?_ ?_; omega))); rintro e w' ⟨v, m5, rfl, v0, v1, rfl⟩; obtain ⟨zv, hzv, ev⟩ := at4 0 (-1) 1152921504606846977 3 v0 v1))
      all_goals go_wp2_with fail
      all_goals go_ret2
      all_goals
        refine ⟨zu, zv, ((p2 : Int) + 1 + 1 + 1).toNat, ?_, by omega, ?_, ?_⟩
        · rfl
        · repeat (first | with_reducible exact R3 | with_reducible apply Rd.drew | with_reducible apply Rd.drewN | with_reducible apply Rd.alloc | (with_reducible apply Rd.setq; case hq => omega))
        · repeat (first | with_reducible exact T3 | with_reducible apply Tch.drew | with_reducible apply Tch.drewN | with_reducible apply Tch.setCell | with_reducible refine Tch.alloc ?_ ?_ _)
          all_goals (repeat (first | with_reducible exact T3.size | with_reducible apply le_alloc | with_reducible apply le_setCell | with_reducible apply le_drewN | with_reducible apply le_drew))
    · have e0 : (t == 0) = false := by simp; omega
      have e1 : (t == 1) = false := by simp; omega
      have e2 : (t == 2) = false := by simp; omega
      have e3 : (t == 3) = false := by simp; omega
      have e4 : (t == 4) = false := by simp; omega
      go_wp2_with fail
      go_ret2
      exact ⟨_, _, _, rfl, by omega, R3, T3⟩

end DW
end Go.Proofs.Ytelkblmkpinpoab
