/-
  What the draw of NumRoot's law returns: a number, whatever the code; nothing that was there has turned.
-/
import Derived.Test.YtelkblmkpinpoabRows
import Derived.Test.YtelkblmkpinpoabDrawKit
import Derived.Test.YtelkblmkpinpoabDrawWalks
import Derived.Test.YtelkblmkpinpoabDrawBig
import Derived.WalkKit
import Derived.Below
namespace Go.Proofs.Ytelkblmkpinpoab
open Go.RowKit
set_option linter.unusedVariables false

namespace DW
open DK

theorem drawNumRoot_any (w : World) (a : Option Addr) (len cap : Nat) (h : Src w a len cap) :
    Calls Try.prog 9 #[.slice a len cap] w fun e w' => ∃ x : Int, e = .returned (.int .i64 x) ∧ Below w.heap.size w w' := by
  go_enter Try.func9, Try.ntmps9
  go_wp2_with fail
  refine (l6Open_any _ _ _ _ h).mono ?_
  rintro e w1 ⟨rfl, R1, B1⟩
  go_wp2_with fail
  refine (l71Big_any _ _ _ _ (by omega) R1 (by omega) (by omega)).mono ?_
  rintro e w2 ⟨x, p2, rfl, x0, x1, q2, R2, T2⟩
  go_wp2_with fail
  refine (pick_any _ _ _ _ (by omega) R2).mono ?_
  rintro e w3 ⟨v, rfl, v0, v1, R3, T3⟩
  replace v1 := v1 (by omega)
  replace T3 := T2.trans (T3.mono T2.size)
  clear T2 R2 R1 h
  rcases (show v = 0 ∨ 1 ≤ v by omega) with rfl | v2
  · go_wp2_with fail
    refine (pick_any _ _ _ _ (by omega) R3).mono ?_
    rintro e w4 ⟨u, rfl, u0, u1, R4, T4⟩
    replace u1 := u1 (by omega)
    replace T4 := T3.trans (T4.mono T3.size)
    go_wp2_with fail
    refine (pick_any _ _ _ _ (by omega) R4).mono ?_
    rintro e w5 ⟨s, rfl, s0, s1, R5, T5⟩
    replace s1 := s1 (by omega)
    go_wp2_with fail
    go_ret
    exact ⟨_, rfl, B1.trans ((T4.trans (T5.mono T4.size)).toBelow B1.size (Nat.le_refl _))⟩
  · have e0 : (v == 0) = false := by simp; omega
    go_wp2_with fail
    refine (pick_any _ _ _ _ (by omega) R3).mono ?_
    rintro e w4 ⟨u, rfl, u0, u1, R4, T4⟩
    replace u1 := u1 (by omega)
    replace T4 := T3.trans (T4.mono T3.size)
    have B4 := B1.trans (T4.toBelow B1.size (Nat.le_refl _))
    go_wp2_with fail
    all_goals go_ret
    all_goals first | exact ⟨⟨_, rfl⟩, B4⟩ | exact ⟨_, rfl, B4⟩

end DW
end Go.Proofs.Ytelkblmkpinpoab
