/-
  What the draws of chapter 1's laws return: numbers, whatever the code; nothing that was there has turned.
-/
import Derived.Test.YtelkblmkpinpoabRows
import Derived.Test.YtelkblmkpinpoabDrawKit
import Derived.Test.YtelkblmkpinpoabDrawWalks
import Derived.Test.YtelkblmkpinpoabDrawBig
import Derived.Test.YtelkblmkpinpoabDrawNum
import Derived.Test.YtelkblmkpinpoabDrawDiv
import Derived.WalkKit
import Derived.OwnWalk
import Derived.Below
namespace Go.Proofs.Ytelkblmkpinpoab
open Go.RowKit
set_option linter.unusedVariables false

namespace DW
open DK



theorem drawNumRound_any (w : World) (a : Option Addr) (len cap : Nat) (h : Src w a len cap) :
    Calls Try.prog 6 #[.slice a len cap] w fun e w' => ∃ x y z : Int, e = .returned (.tuple #[.int .i64 x, .int .i64 y, .int .i64 z]) ∧ Below w.heap.size w w' := by
  go_enter Try.func6, Try.ntmps6
  go_wp2_with fail
  refine (l6Open_any _ _ _ _ h).mono ?_
  rintro e w1 ⟨rfl, R1, B1⟩
  go_wp2_with fail
  refine (l71Divided_any _ _ _ (by omega) R1).mono ?_
  rintro e w2 ⟨x, y, p2, rfl, q2, R2, T2⟩
  go_wp2_with fail
  refine (pick_any _ _ _ _ (by omega) R2).mono ?_
  rintro e w3 ⟨v, rfl, v0, v1, R3, T3⟩
  replace v1 := v1 (by omega)
  replace T3 := T2.trans (T3.mono T2.size)
  clear T2 R2 R1 h
  rcases (show v = 0 ∨ 1 ≤ v by omega) with rfl | v2
  · go_wp2_with fail
    refine (pick_any _ _ _ _ (by omega) R3).mono ?_
    rintro e w4 ⟨u, rfl, u0, u1, R4, T4⟩
    replace u1 := u1 (by omega)
    replace T4 := T3.trans (T4.mono T3.size)
    go_wp2_with fail
    refine (pick_any _ _ _ _ (by omega) R4).mono ?_
    rintro e w5 ⟨s, rfl, s0, s1, R5, T5⟩
    replace s1 := s1 (by omega)
    replace T5 := T4.trans (T5.mono T4.size)
    go_wp2_with fail
    refine (l71Way_any _ _ _ (by omega) R5).mono ?_
    rintro e w6 ⟨z, p6, rfl, z0, z1, q6, R6, T6⟩
    go_wp2_with fail
    go_ret3
    exact ⟨_, _, _, rfl, B1.trans ((T5.trans (T6.mono T5.size)).toBelow B1.size (Nat.le_refl _))⟩
  · have e0 : (v == 0) = false := by simp; omega
    go_wp2_with fail
    refine (l71Way_any _ _ _ (by omega) R3).mono ?_
    rintro e w6 ⟨z, p6, rfl, z0, z1, q6, R6, T6⟩
    go_wp2_with fail
    go_ret3
    exact ⟨_, _, _, rfl, B1.trans ((T3.trans (T6.mono T3.size)).toBelow B1.size (Nat.le_refl _))⟩

end DW
end Go.Proofs.Ytelkblmkpinpoab
