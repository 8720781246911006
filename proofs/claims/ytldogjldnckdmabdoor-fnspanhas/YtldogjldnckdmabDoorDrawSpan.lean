/-
  What the draws of spans return: two numbers, not great, whatever the code.
-/
import Derived.Test.YtldogjldnckdmabDoorRows
import Derived.Test.YtldogjldnckdmabDoorDrawKit
import Derived.Test.YtldogjldnckdmabDoorDrawWalks
import Derived.Test.YtldogjldnckdmabDoorDrawBig
import Derived.Test.YtldogjldnckdmabDoorDrawNum
import Derived.Test.YtldogjldnckdmabDoorSpanWalks
import Derived.WalkKit
import Derived.Below
import Derived.Lib.MinMax
namespace Go.Proofs.YtldogjldnckdmabDoor
open Go.RowKit
set_option linter.unusedVariables false

namespace DW
open DK SW

theorem Box.tch {k n : Nat} {w w' : World} {b : Nat} {x y : Int} (h : Box w b x y) (t : Tch k n w w') (hb : b < n) (hk : b ≠ k) : Box w' b x y :=
  ⟨(t.cell hb hk).trans h.c0, (t.cell hb hk).trans h.c1, (t.frozen hb hk).trans h.f0, (t.frozen hb hk).trans h.f1⟩
theorem Rd.setHi {w : World} {k p b o : Nat} {v : Value} (h : Rd w k p) (hb : k < b) : Rd (w.setCell ⟨b, o, none⟩ v) k p := by
  have e : ∀ j, j ≤ k → (w.setCell ⟨b, o, none⟩ v).heap[j]? = w.heap[j]? := fun j hj => Below.heap_setCell _ _ _ _ (by simp; omega)
  obtain ⟨a, len, cap, h0, h1, hf, hl, hB⟩ := h
  refine ⟨a, len, cap, (World.cell?_of_block (w := w) (e k (Nat.le_refl _))).trans h0, (World.cell?_of_block (w := w) (e k (Nat.le_refl _))).trans h1, (World.frozen?_of_block (w := w) (e k (Nat.le_refl _))).trans hf, hl, ?_⟩
  rcases hB with rfl | ⟨c, off, rfl, hc, hz⟩
  · exact .inl rfl
  · refine .inr ⟨c, off, rfl, hc, fun i hi => ?_⟩
    obtain ⟨z, z0, z1, hcell⟩ := hz i hi
    exact ⟨z, z0, z1, (World.cell?_of_block (w := w) (e c (by omega))).trans hcell⟩
theorem Tch.setHi {k n b o : Nat} {a w : World} {v : Value} (h : Tch k n a w) (hb : n ≤ b) : Tch k n a (w.setCell ⟨b, o, none⟩ v) :=
  h.trans ⟨rfl, rfl, rfl, by simp [World.setCell], fun j hj hk => Below.heap_setCell _ _ _ _ (by simp; omega)⟩

theorem l71Rat_any (w : World) (k p : Nat) (hp : p ≤ 800000000) (h : Rd w k p) :
    Calls Tryd.prog 18 #[.pointer (some ⟨k, 0, none⟩)] w fun e w' => ∃ x y : Int, ∃ p' : Nat, e = .returned (.tuple #[.int .i64 x, .int .i64 y]) ∧ -2000000000 ≤ x ∧ x ≤ 2000000000 ∧ -2000000000 ≤ y ∧ y ≤ 2000000000 ∧ p' ≤ p + 50 ∧ Rd w' k p' ∧ Tch k w.heap.size w w' := by
  go_enter Tryd.func18, Tryd.ntmps18
  go_wp2_with fail
  refine (pick_any _ k p _ (by omega) h).mono ?_
  rintro e w1 ⟨v, rfl, v0, v1, R1, T1⟩
  replace v1 := v1 (by omega)
  clear h
  go_wp2_with fail
  refine (pick_any _ k _ _ (by omega) R1).mono ?_
  rintro e w2 ⟨u, rfl, u0, u1, R2, T2⟩
  replace u1 := u1 (by omega)
  replace T2 := T1.trans (T2.mono T1.size)
  clear T1 R1
  rcases (show u = 0 ∨ u = 1 ∨ 2 ≤ u by omega) with rfl | rfl | u2
  · go_wp2_with fail
    refine (l71Big_any _ k _ _ (by omega) R2 (by omega) (by omega)).mono ?_
    rintro e w3 ⟨x, p3, rfl, x0, x1, q3, R3, T3⟩
    replace T3 := T2.trans (T3.mono T2.size)
    clear R2 T2
    go_wp2_with fail
    refine (l71Big_any _ k _ _ (by omega) R3 (by omega) (by omega)).mono ?_
    rintro e w4 ⟨y, p4, rfl, y0, y1, q4, R4, T4⟩
    replace T4 := T3.trans (T4.mono T3.size)
    go_wp2_with fail
    go_ret2
    exact ⟨_, _, _, rfl, by omega, by omega, by omega, by omega, by omega, R4, T4⟩
  · go_wp2_with fail
    refine (pick_any _ k _ _ (by omega) (R2.kept ((Below.refl _ _).alloc (Nat.le_refl _) _))).mono ?_
    rintro e w3 ⟨s, rfl, s0, s1, R3, T3⟩
    replace s1 := s1 (by omega)
    have hk := R2.lt
    have d0 : w3.cell? ⟨w2.heap.size, 0, none⟩ = some (.int .i64 0) := by rw [T3.cell (by simp) (by omega)]; simp [go_sem]
    have d1 : w3.cell? ⟨w2.heap.size, 1, none⟩ = some (.int .i64 (-1)) := by rw [T3.cell (by simp) (by omega)]; simp [go_sem]
    have d2 : w3.cell? ⟨w2.heap.size, 2, none⟩ = some (.int .i64 1000000001) := by rw [T3.cell (by simp) (by omega)]; simp [go_sem]
    replace T3 := (T2.alloc T2.size _).trans (T3.mono (by simp; have := T2.size; omega))
    clear R2 T2
    rcases (show s = 0 ∨ s = 1 ∨ s = 2 by omega) with rfl | rfl | rfl
    all_goals
      go_wp2_with fail
      refine (l71Big_any _ k _ _ (by omega) R3 (by omega) (by omega)).mono ?_
      rintro e w4 ⟨y, p4, rfl, y0, y1, q4, R4, T4⟩
      replace T4 := T3.trans (T4.mono T3.size)
      go_wp2_with fail
      go_ret2
      exact ⟨_, _, _, rfl, by omega, by omega, by omega, by omega, by omega, R4, T4⟩
  · have e0 : (u == 0) = false := by simp; omega
    have e1 : (u == 1) = false := by simp; omega
    go_wp2_with fail
    refine (l71Big_any _ k _ _ (by omega) R2 (by omega) (by omega)).mono ?_
    rintro e w4 ⟨y, p4, rfl, y0, y1, q4, R4, T4⟩
    replace T4 := T2.trans (T4.mono T2.size)
    go_wp2_with fail
    go_ret2
    exact ⟨_, _, _, rfl, by omega, by omega, by omega, by omega, by omega, R4, T4⟩

theorem drawSpanOf_any (w : World) (a : Option Addr) (len cap : Nat) (h : Src w a len cap) :
    Calls Tryd.prog 6 #[.slice a len cap] w fun e w' => ∃ x y : Int, e = .returned (.tuple #[.int .i64 x, .int .i64 y]) ∧ -2000000000 ≤ x ∧ x ≤ 2000000000 ∧ -2000000000 ≤ y ∧ y ≤ 2000000000 ∧ Below w.heap.size w w' := by
  go_enter Tryd.func6, Tryd.ntmps6
  go_wp2_with fail
  refine (l6Open_any _ _ _ _ h).mono ?_
  rintro e w1 ⟨rfl, R1, B1⟩
  go_wp2_with fail
  refine (l71Rat_any _ _ _ (by omega) R1).mono ?_
  rintro e w2 ⟨x, y, p2, rfl, x0, x1, y0, y1, q2, R2, T2⟩
  go_wp2_with fail
  go_ret2
  exact ⟨_, _, rfl, x0, x1, y0, y1, B1.trans (T2.toBelow B1.size (Nat.le_refl _))⟩

end DW
end Go.Proofs.YtldogjldnckdmabDoor
