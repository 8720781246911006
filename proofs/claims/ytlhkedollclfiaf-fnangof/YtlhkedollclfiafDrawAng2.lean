/-
  The draw of an angle by its parts.
-/
import Derived.Test.YtlhkedollclfiafRows
import Derived.Test.YtlhkedollclfiafDrawKit
import Derived.Test.YtlhkedollclfiafDrawWalks
import Derived.Test.YtlhkedollclfiafDrawBig
import Derived.Test.YtlhkedollclfiafDrawAng
import Derived.Test.YtlhkedollclfiafAngWalks
import Derived.WalkKit
import Derived.Below
namespace Go.Proofs.Ytlhkedollclfiaf
open Go.RowKit
set_option linter.unusedVariables false

namespace DW
open DK AW

/-- An angle by its parts lies in block 'b', and may be written. -/
structure FiveF (w : World) (b : Nat) (l : Bool) (d m s h : Int) : Prop where
  five : Five w b l d m s h
  fz : ∀ o, w.frozen? ⟨b, o, none⟩ = false
theorem FiveF.lt {w : World} {b : Nat} {l : Bool} {d m s h : Int} (f : FiveF w b l d m s h) : b < w.heap.size := DK.cell_lt f.five.c0
theorem FiveF.kept {w w' : World} {b : Nat} {l : Bool} {d m s h : Int} (f : FiveF w b l d m s h) (k : Below w.heap.size w w') : FiveF w' b l d m s h :=
  ⟨f.five.kept k, fun o => (k.frozen (p := ⟨b, o, none⟩) f.lt).trans (f.fz o)⟩
theorem FiveF.tch {w w' : World} {b k : Nat} {l : Bool} {d m s h : Int} (f : FiveF w b l d m s h) (t : Tch k w.heap.size w w') (hk : b ≠ k) : FiveF w' b l d m s h :=
  ⟨⟨(t.cell f.lt hk).trans f.five.c0, (t.cell f.lt hk).trans f.five.c1, (t.cell f.lt hk).trans f.five.c2, (t.cell f.lt hk).trans f.five.c3, (t.cell f.lt hk).trans f.five.c4⟩, fun o => (t.frozen f.lt hk).trans (f.fz o)⟩
theorem FiveF.new (w : World) (l : Bool) (d m s h : Int) (t : TypeId) : FiveF (w.alloc (.cells #[.bool l, .int .i64 d, .int .i64 m, .int .i64 s, .int .i64 h] t)) w.heap.size l d m s h :=
  ⟨Five.new w l d m s h t, fun o => by simp [go_sem]⟩
theorem sParts_some (a : Int) (w : World) :
    Calls Try.prog 16 #[.int .i64 a] w fun e w' => (∃ (l : Bool) (d m s h : Int) (b : Bool), e = .returned (.tuple #[angV l d m s h, .bool b])) ∧ Below w.heap.size w w' := by
  cases h : AM.inT a
  · refine (sParts_no a w h).mono ?_
    rintro e w' ⟨rfl, B⟩
    exact ⟨⟨_, _, _, _, _, _, rfl⟩, B⟩
  · refine (sParts_yes a w h).mono ?_
    rintro e w' ⟨rfl, B⟩
    exact ⟨⟨_, _, _, _, _, _, rfl⟩, B⟩
set_option maxHeartbeats 8000000 in
theorem drawAngOf_any (w : World) (a : Option Addr) (len cap : Nat) (h : Src w a len cap) :
    Calls Try.prog 19 #[.slice a len cap] w fun e w' => (∃ (l : Bool) (d m s h : Int), e = .returned (angV l d m s h)) ∧ Below w.heap.size w w' := by
  have B0 := below_new w (.cells #[.bool false, .int .i64 0, .int .i64 0, .int .i64 0, .int .i64 0] 32)
  have Y := FiveF.new w false 0 0 0 0 32
  replace h := h.kept B0
  go_enter Try.func19, Try.ntmps19
  go_wp2_with fail
  refine (l6Open_any _ _ _ _ h).mono ?_
  rintro e w1 ⟨rfl, R1, B1⟩
  replace Y := Y.kept B1
  have hk : w.heap.size < (w.alloc (.cells #[.bool false, .int .i64 0, .int .i64 0, .int .i64 0, .int .i64 0] 32)).heap.size := by simp
  replace B1 := below1 B0 B1
  clear h B0
  generalize (w.alloc (.cells #[.bool false, .int .i64 0, .int .i64 0, .int .i64 0, .int .i64 0] 32)).heap.size = k at *
  go_wp2_with fail
  refine (l71Ang_any _ _ _ (by omega) R1).mono ?_
  rintro e w2 ⟨v, p2, rfl, v0, v1, q2, R2, T2⟩
  replace Y := Y.tch T2 (by omega)
  have B := B1.trans (T2.toBelow B1.size (by omega))
  clear B1 T2 R1
  go_wp2_with fail
  refine (sParts_some _ _).mono ?_
  rintro e w3 ⟨⟨l, d, m, s, u, b, rfl⟩, B3⟩
  replace Y := Y.kept B3
  replace R2 := R2.kept B3
  have hkx := R2.lt
  replace B := below1 B B3
  clear B3
  have X := FiveF.new w3 l d m s u 32
  replace Y := Y.kept (below_new w3 (.cells #[.bool l, .int .i64 d, .int .i64 m, .int .i64 s, .int .i64 u] 32))
  replace R2 := R2.kept (below_new w3 (.cells #[.bool l, .int .i64 d, .int .i64 m, .int .i64 s, .int .i64 u] 32))
  replace B := below1 B (below_new w3 (.cells #[.bool l, .int .i64 d, .int .i64 m, .int .i64 s, .int .i64 u] 32))
  go_wp2_with fail
  refine (pick_any _ _ _ _ (by omega) R2).mono ?_
  rintro e w4 ⟨g, rfl, g0, g1, R4, T4⟩
  replace g1 := g1 (by omega)
  replace X := X.tch T4 (by omega)
  replace Y := Y.tch T4 (by omega)
  replace B := B.trans (T4.toBelow B.size (by omega))
  have hx : w.heap.size < w3.heap.size := by omega
  generalize w3.heap.size = xb at *
  clear T4 R2
  rcases (show g = 0 ∨ g = 1 ∨ g = 2 ∨ g = 3 ∨ g = 4 ∨ 5 ≤ g by omega) with rfl | rfl | rfl | rfl | rfl | g2
  · have bs : Below w4.heap.size w4 (w4.alloc (.cells #[.int .i64 (-1), .int .i64 361, .int .i64 360] 3)) := below_new _ _
    go_wp2_with fail
    refine (pick_any _ _ _ _ (by omega) (R4.kept bs)).mono ?_
    rintro e w5 ⟨t, rfl, t0, t1, R5, T5⟩
    replace t1 := t1 (by omega)
    have hb4 := R4.lt
    replace X := (X.kept bs).tch T5 (by omega)
    replace Y := (Y.kept bs).tch T5 (by omega)
    replace B := (B.trans (bs.mono B.size)).trans (T5.toBelow (by simp; have := B.size; omega) (by omega))
    obtain ⟨⟨y0, y1, y2, y3, y4⟩, yz⟩ := Y
    obtain ⟨⟨x0, x1, x2, x3, x4⟩, xz⟩ := X
    have z0 := yz 0
    have z1 := yz 1
    have z2 := yz 2
    have z3 := yz 3
    have z4 := yz 4
    have zx := xz 1
    rcases (show t = 0 ∨ t = 1 ∨ t = 2 by omega) with rfl | rfl | rfl
    · have hc : w5.cell? ⟨w4.heap.size, 0, none⟩ = some (.int .i64 (-1)) := by rw [T5.cell (by simp) (by omega)]; simp [go_sem]
      go_wp2
      refine bodyPost_ret (v := angV l (-1) m s u) (by simp [results, Try.results19, go_sem, *]) rfl ⟨⟨_, _, _, _, _, rfl⟩, ?_⟩
      exact (((((B.setCell (show w.heap.size ≤ xb by omega) _).setCell (Nat.le_refl _) _).setCell (Nat.le_refl _) _).setCell (Nat.le_refl _) _).setCell (Nat.le_refl _) _).setCell (Nat.le_refl _) _
    · have hc : w5.cell? ⟨w4.heap.size, 1, none⟩ = some (.int .i64 (361)) := by rw [T5.cell (by simp) (by omega)]; simp [go_sem]
      go_wp2
      refine bodyPost_ret (v := angV l (361) m s u) (by simp [results, Try.results19, go_sem, *]) rfl ⟨⟨_, _, _, _, _, rfl⟩, ?_⟩
      exact (((((B.setCell (show w.heap.size ≤ xb by omega) _).setCell (Nat.le_refl _) _).setCell (Nat.le_refl _) _).setCell (Nat.le_refl _) _).setCell (Nat.le_refl _) _).setCell (Nat.le_refl _) _
    · have hc : w5.cell? ⟨w4.heap.size, 2, none⟩ = some (.int .i64 (360)) := by rw [T5.cell (by simp) (by omega)]; simp [go_sem]
      go_wp2
      refine bodyPost_ret (v := angV l (360) m s u) (by simp [results, Try.results19, go_sem, *]) rfl ⟨⟨_, _, _, _, _, rfl⟩, ?_⟩
      exact (((((B.setCell (show w.heap.size ≤ xb by omega) _).setCell (Nat.le_refl _) _).setCell (Nat.le_refl _) _).setCell (Nat.le_refl _) _).setCell (Nat.le_refl _) _).setCell (Nat.le_refl _) _
  · have bs : Below w4.heap.size w4 (w4.alloc (.cells #[.int .i64 (-1), .int .i64 60] 3)) := below_new _ _
    go_wp2_with fail
    refine (pick_any _ _ _ _ (by omega) (R4.kept bs)).mono ?_
    rintro e w5 ⟨t, rfl, t0, t1, R5, T5⟩
    replace t1 := t1 (by omega)
    have hb4 := R4.lt
    replace X := (X.kept bs).tch T5 (by omega)
    replace Y := (Y.kept bs).tch T5 (by omega)
    replace B := (B.trans (bs.mono B.size)).trans (T5.toBelow (by simp; have := B.size; omega) (by omega))
    obtain ⟨⟨y0, y1, y2, y3, y4⟩, yz⟩ := Y
    obtain ⟨⟨x0, x1, x2, x3, x4⟩, xz⟩ := X
    have z0 := yz 0
    have z1 := yz 1
    have z2 := yz 2
    have z3 := yz 3
    have z4 := yz 4
    have zx := xz 2
    rcases (show t = 0 ∨ t = 1 by omega) with rfl | rfl
    · have hc : w5.cell? ⟨w4.heap.size, 0, none⟩ = some (.int .i64 (-1)) := by rw [T5.cell (by simp) (by omega)]; simp [go_sem]
      go_wp2
      refine bodyPost_ret (v := angV l d (-1) s u) (by simp [results, Try.results19, go_sem, *]) rfl ⟨⟨_, _, _, _, _, rfl⟩, ?_⟩
      exact (((((B.setCell (show w.heap.size ≤ xb by omega) _).setCell (Nat.le_refl _) _).setCell (Nat.le_refl _) _).setCell (Nat.le_refl _) _).setCell (Nat.le_refl _) _).setCell (Nat.le_refl _) _
    · have hc : w5.cell? ⟨w4.heap.size, 1, none⟩ = some (.int .i64 (60)) := by rw [T5.cell (by simp) (by omega)]; simp [go_sem]
      go_wp2
      refine bodyPost_ret (v := angV l d (60) s u) (by simp [results, Try.results19, go_sem, *]) rfl ⟨⟨_, _, _, _, _, rfl⟩, ?_⟩
      exact (((((B.setCell (show w.heap.size ≤ xb by omega) _).setCell (Nat.le_refl _) _).setCell (Nat.le_refl _) _).setCell (Nat.le_refl _) _).setCell (Nat.le_refl _) _).setCell (Nat.le_refl _) _
  · have bs : Below w4.heap.size w4 (w4.alloc (.cells #[.int .i64 (-1), .int .i64 60] 3)) := below_new _ _
    go_wp2_with fail
    refine (pick_any _ _ _ _ (by omega) (R4.kept bs)).mono ?_
    rintro e w5 ⟨t, rfl, t0, t1, R5, T5⟩
    replace t1 := t1 (by omega)
    have hb4 := R4.lt
    replace X := (X.kept bs).tch T5 (by omega)
    replace Y := (Y.kept bs).tch T5 (by omega)
    replace B := (B.trans (bs.mono B.size)).trans (T5.toBelow (by simp; have := B.size; omega) (by omega))
    obtain ⟨⟨y0, y1, y2, y3, y4⟩, yz⟩ := Y
    obtain ⟨⟨x0, x1, x2, x3, x4⟩, xz⟩ := X
    have z0 := yz 0
    have z1 := yz 1
    have z2 := yz 2
    have z3 := yz 3
    have z4 := yz 4
    have zx := xz 3
    rcases (show t = 0 ∨ t = 1 by omega) with rfl | rfl
    · have hc : w5.cell? ⟨w4.heap.size, 0, none⟩ = some (.int .i64 (-1)) := by rw [T5.cell (by simp) (by omega)]; simp [go_sem]
      go_wp2
      refine bodyPost_ret (v := angV l d m (-1) u) (by simp [results, Try.results19, go_sem, *]) rfl ⟨⟨_, _, _, _, _, rfl⟩, ?_⟩
      exact (((((B.setCell (show w.heap.size ≤ xb by omega) _).setCell (Nat.le_refl _) _).setCell (Nat.le_refl _) _).setCell (Nat.le_refl _) _).setCell (Nat.le_refl _) _).setCell (Nat.le_refl _) _
    · have hc : w5.cell? ⟨w4.heap.size, 1, none⟩ = some (.int .i64 (60)) := by rw [T5.cell (by simp) (by omega)]; simp [go_sem]
      go_wp2
      refine bodyPost_ret (v := angV l d m (60) u) (by simp [results, Try.results19, go_sem, *]) rfl ⟨⟨_, _, _, _, _, rfl⟩, ?_⟩
      exact (((((B.setCell (show w.heap.size ≤ xb by omega) _).setCell (Nat.le_refl _) _).setCell (Nat.le_refl _) _).setCell (Nat.le_refl _) _).setCell (Nat.le_refl _) _).setCell (Nat.le_refl _) _
  · have bs : Below w4.heap.size w4 (w4.alloc (.cells #[.int .i64 (-1), .int .i64 100] 3)) := below_new _ _
    go_wp2_with fail
    refine (pick_any _ _ _ _ (by omega) (R4.kept bs)).mono ?_
    rintro e w5 ⟨t, rfl, t0, t1, R5, T5⟩
    replace t1 := t1 (by omega)
    have hb4 := R4.lt
    replace X := (X.kept bs).tch T5 (by omega)
    replace Y := (Y.kept bs).tch T5 (by omega)
    replace B := (B.trans (bs.mono B.size)).trans (T5.toBelow (by simp; have := B.size; omega) (by omega))
    obtain ⟨⟨y0, y1, y2, y3, y4⟩, yz⟩ := Y
    obtain ⟨⟨x0, x1, x2, x3, x4⟩, xz⟩ := X
    have z0 := yz 0
    have z1 := yz 1
    have z2 := yz 2
    have z3 := yz 3
    have z4 := yz 4
    have zx := xz 4
    rcases (show t = 0 ∨ t = 1 by omega) with rfl | rfl
    · have hc : w5.cell? ⟨w4.heap.size, 0, none⟩ = some (.int .i64 (-1)) := by rw [T5.cell (by simp) (by omega)]; simp [go_sem]
      go_wp2
      refine bodyPost_ret (v := angV l d m s (-1)) (by simp [results, Try.results19, go_sem, *]) rfl ⟨⟨_, _, _, _, _, rfl⟩, ?_⟩
      exact (((((B.setCell (show w.heap.size ≤ xb by omega) _).setCell (Nat.le_refl _) _).setCell (Nat.le_refl _) _).setCell (Nat.le_refl _) _).setCell (Nat.le_refl _) _).setCell (Nat.le_refl _) _
    · have hc : w5.cell? ⟨w4.heap.size, 1, none⟩ = some (.int .i64 (100)) := by rw [T5.cell (by simp) (by omega)]; simp [go_sem]
      go_wp2
      refine bodyPost_ret (v := angV l d m s (100)) (by simp [results, Try.results19, go_sem, *]) rfl ⟨⟨_, _, _, _, _, rfl⟩, ?_⟩
      exact (((((B.setCell (show w.heap.size ≤ xb by omega) _).setCell (Nat.le_refl _) _).setCell (Nat.le_refl _) _).setCell (Nat.le_refl _) _).setCell (Nat.le_refl _) _).setCell (Nat.le_refl _) _
  · obtain ⟨⟨y0, y1, y2, y3, y4⟩, yz⟩ := Y
    obtain ⟨⟨x0, x1, x2, x3, x4⟩, xz⟩ := X
    have z0 := yz 0
    have z1 := yz 1
    have z2 := yz 2
    have z3 := yz 3
    have z4 := yz 4
    have zx := xz 0
    go_wp2
    refine bodyPost_ret (v := angV (!l) d m s u) (by simp [results, Try.results19, go_sem, *]) rfl ⟨⟨_, _, _, _, _, rfl⟩, ?_⟩
    exact (((((B.setCell (show w.heap.size ≤ xb by omega) _).setCell (Nat.le_refl _) _).setCell (Nat.le_refl _) _).setCell (Nat.le_refl _) _).setCell (Nat.le_refl _) _).setCell (Nat.le_refl _) _
  · have e0 : (g == 0) = false := by simp; omega
    have e1 : (g == 1) = false := by simp; omega
    have e2 : (g == 2) = false := by simp; omega
    have e3 : (g == 3) = false := by simp; omega
    have e4 : (g == 4) = false := by simp; omega
    obtain ⟨⟨y0, y1, y2, y3, y4⟩, yz⟩ := Y
    obtain ⟨⟨x0, x1, x2, x3, x4⟩, xz⟩ := X
    have z0 := yz 0
    have z1 := yz 1
    have z2 := yz 2
    have z3 := yz 3
    have z4 := yz 4
    go_wp2
    refine bodyPost_ret (v := angV l d m s u) (by simp [results, Try.results19, go_sem, *]) rfl ⟨⟨_, _, _, _, _, rfl⟩, ?_⟩
    exact ((((B.setCell (Nat.le_refl _) _).setCell (Nat.le_refl _) _).setCell (Nat.le_refl _) _).setCell (Nat.le_refl _) _).setCell (Nat.le_refl _) _
end DW
end Go.Proofs.Ytlhkedollclfiaf
