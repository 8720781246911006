/-
  The draws of fans: a fan, a fan and an angle, a fan, parts and a way.
-/
import Derived.Test.YtfdkpcejjcifgalDoorRows
import Derived.Test.YtfdkpcejjcifgalDoorDrawKit
import Derived.Test.YtfdkpcejjcifgalDoorDrawWalks
import Derived.Test.YtfdkpcejjcifgalDoorDrawBig
import Derived.Test.YtfdkpcejjcifgalDoorDrawSine
import Derived.Test.YtfdkpcejjcifgalDoorSineKit
import Derived.Test.YtfdkpcejjcifgalDoorLoose2
import Derived.Test.YtfdkpcejjcifgalDoorLoose3
import Derived.WalkKit
import Derived.Below
namespace Go.Proofs.YtfdkpcejjcifgalDoor
open Go.RowKit Go.Sort
set_option linter.unusedVariables false

namespace DF
open DK DW SK

theorem boxTch {k n : Nat} {w w' : World} {b : Nat} {x y : Int} (h : SK.Box w b x y) (t : Tch k n w w') (hb : b < n) (hk : b ≠ k) : SK.Box w' b x y :=
  ⟨(t.cell hb hk).trans h.c0, (t.cell hb hk).trans h.c1, (t.frozen hb hk).trans h.f0, (t.frozen hb hk).trans h.f1⟩
theorem rdHi {w : World} {k p b o : Nat} {v : Value} (h : Rd w k p) (hb : k < b) : Rd (w.setCell ⟨b, o, none⟩ v) k p := by
  have e : ∀ j, j ≤ k → (w.setCell ⟨b, o, none⟩ v).heap[j]? = w.heap[j]? := fun j hj => Below.heap_setCell _ _ _ _ (by simp; omega)
  obtain ⟨a, len, cap, h0, h1, hf, hl, hB⟩ := h
  refine ⟨a, len, cap, (World.cell?_of_block (w := w) (e k (Nat.le_refl _))).trans h0, (World.cell?_of_block (w := w) (e k (Nat.le_refl _))).trans h1, (World.frozen?_of_block (w := w) (e k (Nat.le_refl _))).trans hf, hl, ?_⟩
  rcases hB with rfl | ⟨c, off, rfl, hc, hz⟩
  · exact .inl rfl
  · refine .inr ⟨c, off, rfl, hc, fun i hi => ?_⟩
    obtain ⟨z, z0, z1, hcell⟩ := hz i hi
    exact ⟨z, z0, z1, (World.cell?_of_block (w := w) (e c (by omega))).trans hcell⟩
theorem tchHi {k n b o : Nat} {a w : World} {v : Value} (h : Tch k n a w) (hb : n ≤ b) : Tch k n a (w.setCell ⟨b, o, none⟩ v) :=
  h.trans ⟨rfl, rfl, rfl, by simp [World.setCell], fun j hj hk => Below.heap_setCell _ _ _ _ (by simp; omega)⟩
set_option maxHeartbeats 2000000 in
theorem l71Fan_any (w : World) (k p : Nat) (hp : p ≤ 800000000) (h : Rd w k p) :
    Calls Tryd.prog 21 #[.pointer (some ⟨k, 0, none⟩)] w fun e w' => ∃ l h : Int, ∃ p' : Nat, e = .returned (SK.spV l h) ∧ -194400020 ≤ l ∧ l ≤ 194400020 ∧ -194400020 ≤ h ∧ h ≤ 194400020 ∧ p' ≤ p + 30 ∧ Rd w' k p' ∧ Tch k w.heap.size w w' := by
  have hk := h.lt
  have Y := SK.Box.new w 0 0 24
  have T := (Tch.refl k w.heap.size w).alloc (Nat.le_refl _) (.cells #[.int .i64 0, .int .i64 0] 24)
  go_enter Tryd.func21, Tryd.ntmps21
  go_wp2_with fail
  refine (l71Ang_any _ k p (by omega) (h.alloc _)).mono ?_
  rintro e w1 ⟨a, p1, rfl, a0, a1, q1, R1, T1⟩
  replace Y := boxTch Y T1 Y.lt (by omega)
  replace T := T.trans (T1.mono T.size)
  clear h T1
  go_wp2_with fail
  refine (pick_any _ k _ _ (by omega) R1).mono ?_
  rintro e w2 ⟨x, rfl, x0, x1, R2, T2⟩
  replace x1 := x1 (by omega)
  replace Y := boxTch Y T2 Y.lt (by omega)
  have hy := Y.lt
  replace Y := Y.alloc (.cells #[.int .i64 a, .int .i64 (a + x)] 24)
  have S := SK.Box.new w2 a (a + x) 24
  replace T := (T.trans (T2.mono T.size))
  have hs := T.size
  replace T := T.alloc hs (.cells #[.int .i64 a, .int .i64 (a + x)] 24)
  replace R2 := R2.alloc (.cells #[.int .i64 a, .int .i64 (a + x)] 24)
  clear T2 R1
  go_wp2_with fail
  refine (pick_any _ k _ _ (by omega) R2).mono ?_
  rintro e w3 ⟨v, rfl, v0, v1, R3, T3⟩
  replace v1 := v1 (by omega)
  replace Y := boxTch Y T3 Y.lt (by omega)
  replace S := boxTch S T3 S.lt (by omega)
  replace T := T.trans (T3.mono T.size)
  clear T3 R2
  have hne : w2.heap.size ≠ w.heap.size := by omega
  rcases (show v = 0 ∨ 0 < v by omega) with rfl | v2
  · obtain ⟨y0, y1, y2, y3⟩ := Y.apart (c := w2.heap.size) (o := 1) hne (.int .i64 (a - 1))
    obtain ⟨s0, s1, s2, s3⟩ := S
    go_wp2
    refine bodyPost_ret (v := .agg #[.int .i64 a, .int .i64 (a - 1)]) (by simp [results, Tryd.results21, go_sem, *]) rfl ⟨_, _, _, rfl, by omega, by omega, by omega, by omega, ?_, rdHi (rdHi (rdHi R3 (by omega)) (by omega)) (by omega), tchHi (tchHi (tchHi T (by omega)) (by omega)) (by omega)⟩
    omega
  · have e0 : (v == 0) = false := by simp; omega
    obtain ⟨y0, y1, y2, y3⟩ := Y
    obtain ⟨s0, s1, s2, s3⟩ := S
    go_wp2
    refine bodyPost_ret (v := .agg #[.int .i64 a, .int .i64 (a + x)]) (by simp [results, Tryd.results21, go_sem, *]) rfl ⟨_, _, _, rfl, by omega, by omega, by omega, by omega, ?_, rdHi (rdHi R3 (by omega)) (by omega), tchHi (tchHi T (by omega)) (by omega)⟩
    omega
def num8 (u : Value) : Prop := ∃ z : Int, u = .int .i64 z ∧ 0 ≤ z ∧ z < 8
theorem rdBox {w : World} {k p b : Nat} {x y : Int} (h : Rd w k p) (X : SK.Box w b x y) (hb : b ≠ k) (x' y' : Int) : Rd ((w.setCell ⟨b, 0, none⟩ (.int .i64 x')).setCell ⟨b, 1, none⟩ (.int .i64 y')) k p := by
  obtain ⟨a, len, cap, h0, h1, hf, hl, hB⟩ := h
  have far : ∀ q : Addr, q ≠ ⟨b, 0, none⟩ → q ≠ ⟨b, 1, none⟩ → ((w.setCell ⟨b, 0, none⟩ (.int .i64 x')).setCell ⟨b, 1, none⟩ (.int .i64 y')).cell? q = w.cell? q := fun q n0 n1 => by
    rw [World.cell?_setCell_other _ _ _ _ (Ne.symm n1), World.cell?_setCell_other _ _ _ _ (Ne.symm n0)]
  have nk : ∀ o o' : Nat, (⟨k, o, none⟩ : Addr) ≠ ⟨b, o', none⟩ := fun o o' e => hb (congrArg Addr.block e).symm
  have eh : ((w.setCell ⟨b, 0, none⟩ (.int .i64 x')).setCell ⟨b, 1, none⟩ (.int .i64 y')).heap[k]? = w.heap[k]? := by
    rw [Below.heap_setCell _ _ _ _ (by simp; omega), Below.heap_setCell _ _ _ _ (by simp; omega)]
  refine ⟨a, len, cap, (far _ (nk _ _) (nk _ _)).trans h0, (far _ (nk _ _) (nk _ _)).trans h1, (World.frozen?_of_block (w := w) eh).trans hf, hl, ?_⟩
  rcases hB with rfl | ⟨c, off, rfl, hc, hz⟩
  · exact .inl rfl
  · refine .inr ⟨c, off, rfl, hc, fun i hi => ?_⟩
    obtain ⟨z, z0, z1, hcell⟩ := hz i hi
    refine ⟨z, z0, z1, (far _ (fun e => ?_) (fun e => ?_)).trans hcell⟩
    · rw [e, X.c0] at hcell; cases hcell
    · rw [e, X.c1] at hcell; cases hcell
end DF
end Go.Proofs.YtfdkpcejjcifgalDoor
