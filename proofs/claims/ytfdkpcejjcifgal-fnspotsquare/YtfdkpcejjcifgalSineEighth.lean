/-
  The spans of an eighth of a turn have the true sine and cosine, nearly. No Go text in sight.
-/
import Derived.Test.YtfdkpcejjcifgalSineArc
namespace Go.Proofs.Ytfdkpcejjcifgal
set_option linter.unusedVariables false
namespace SI
open TS (mul_le sq_nonneg ev neg ab ab_bd q c s xx)
theorem psin_zero (J : Nat) : psin J 0 = 0 := TS.ev_zero _ _ (by decide)
theorem psin7_slope {a b : Rat} (h0 : 0 ≤ a) (h : a ≤ b) (h1 : b ≤ 1) : psin 7 b ≤ psin 7 a + 2 * (b - a) := by
  have g := (ev_grow h0 h h1 (lst 7 1 2) 1).1
  have k : slope 1 (lst 7 1 2) ≤ 2 := by decide +kernel
  have m := mul_le k (x := b - a) (by grind)
  unfold psin
  grind
theorem pcos7_slope {a b : Rat} (h0 : 0 ≤ a) (h : a ≤ b) (h1 : b ≤ 1) : pcos 7 a ≤ pcos 7 b + 2 * (b - a) := by
  have g := (ev_grow h0 h h1 (lst 7 1 1) 0).2
  have k : slope 0 (lst 7 1 1) ≤ 2 := by decide +kernel
  have m := mul_le k (x := b - a) (by grind)
  unfold pcos
  grind
structure Arc (h : Int) : Prop where
  y0 : 0 ≤ un (aL h)
  y1 : un (aL h) ≤ xx (2 * h.toNat)
  y2 : xx (2 * h.toNat) ≤ un (aH h)
  y3 : un (aH h) ≤ 785398164 / 1000000000
  y4 : 1000000000 * (un (aH h) - un (aL h)) ≤ 3
theorem arc_of {h : Int} (h0 : 0 ≤ h) (h1 : h ≤ 32400000) : Arc h := by
  obtain ⟨a0, a1, a2, a3⟩ := arc_bd h0 h1
  obtain ⟨x0, x1⟩ := arc_x h0
  have e1 := un_mul (aL h)
  have e2 := un_mul (aH h)
  have b1 := un_bd a0 (by omega)
  have b2 := un_bd (show 0 ≤ aH h by omega) a2
  have c3 := cast_ge a3
  rw [cast_add] at c3
  have k3 : ((3 : Int) : Rat) = 3 := rfl
  rw [k3] at c3
  refine ⟨b1.1, ?_, ?_, b2.2, ?_⟩
  · grind
  · grind
  · grind
structure Enc (L H : Int) (v : Rat) : Prop where
  lo : (L : Rat) ≤ 1000000000 * v + 1 / 1000
  hi : 1000000000 * v ≤ (H : Rat) + 1 / 1000
  le : L ≤ H
  wd : H ≤ L + 64
theorem small_enc {h : Int} (h0 : 0 ≤ h) (h1 : h ≤ 32400000) : Enc (smL h) (smH h) (s (2 * h.toNat)) ∧ 0 ≤ smL h ∧ smH h ≤ 800000000 := by
  obtain ⟨a0, a1, a2, _⟩ := arc_bd h0 h1
  obtain ⟨y0, y1, y2, y3, y4⟩ := arc_of h0 h1
  have x1 : xx (2 * h.toNat) ≤ 1 := by grind
  obtain ⟨r1, r2, r3, r4⟩ := rowS_enc a0 (by omega) 6 (by decide)
  obtain ⟨t1, t2, t3, t4⟩ := rowS_enc (show 0 ≤ aH h by omega) a2 6 (by decide)
  obtain ⟨_, v2, _, _⟩ := rowS_enc (show 0 ≤ aH h by omega) a2 7 (by decide)
  have m1 := psin7_mono y0 y1 x1
  have m2 := psin7_mono (show 0 ≤ xx (2 * h.toNat) by grind) y2 (by grind)
  have m3 := psin8_mono (show 0 ≤ xx (2 * h.toNat) by grind) y2 (by grind)
  have m4 := psin7_mono (show (0 : Rat) ≤ 0 by grind) y0 (by grind)
  rw [psin_zero] at m4
  have sl := psin7_slope y0 (show un (aL h) ≤ un (aH h) by grind) (by grind)
  have s1 := s_ge _ x1
  have s2 := s_le _ x1
  have sz := psin7_slope (show (0 : Rat) ≤ 0 by grind) (show (0 : Rat) ≤ un (aH h) by grind) (by grind)
  have up7 : psin 7 (un (aH h)) ≤ un (aH h) := by
    have e : ∀ y, psin 7 y = y + ev 2 (lst 7 1 2).tail y := fun y => by
      show (1 : Rat) * y ^ 1 + ev 2 (lst 7 1 2).tail y = _
      rw [Rat.pow_succ, Rat.pow_zero]
      grind
    have ha := al_bd (r := un (aH h) * un (aH h)) (sq_nonneg _) (by have := (un_sq (show 0 ≤ aH h by omega) a2).2.2; grind) 7 (1 * un (aH h) ^ 1) 2 (by rw [Rat.pow_succ, Rat.pow_zero]; grind) (by decide)
    rw [al_lst] at ha
    have := ha.2
    rw [Rat.pow_succ, Rat.pow_zero] at this
    unfold psin
    grind
  have tn : (1000000000 : Rat) * tiny ≤ 1 / 1000 := by decide +kernel
  have t0 : (0 : Rat) ≤ tiny := by decide +kernel
  generalize psin 7 (un (aL h)) = p1 at *
  generalize psin 7 (xx (2 * h.toNat)) = p2 at *
  generalize psin 7 (un (aH h)) = p3 at *
  generalize psin 8 (un (aH h)) = p4 at *
  generalize psin 8 (xx (2 * h.toNat)) = p5 at *
  generalize s (2 * h.toNat) = sv at *
  have H0 : (0 : Int) ≤ (rowS (aH h)).2 := cast_lt (by have c0 : ((0 : Int) : Rat) = 0 := rfl; rw [c0]; grind)
  have L1 : (rowS (aL h)).1 ≤ (rowS (aH h)).2 := cast_lt (by grind)
  have W1 : (rowS (aH h)).2 ≤ (rowS (aL h)).1 + 64 := cast_lt (by have c0 : ((64 : Int) : Rat) = 64 := rfl; rw [cast_add, c0]; grind)
  have U1 : (rowS (aH h)).2 ≤ 800000000 := cast_lt (by have c0 : ((800000000 : Int) : Rat) = 800000000 := rfl; rw [c0]; grind)
  have hi : 1000000000 * sv ≤ ((rowS (aH h)).2 : Rat) + 1 / 1000 := by grind
  rcases (show smL h = (rowS (aL h)).1 ∧ 0 ≤ (rowS (aL h)).1 ∨ smL h = 0 ∧ (rowS (aL h)).1 ≤ 0 by unfold smL; omega) with ⟨e, e'⟩ | ⟨e, e'⟩
  · rw [e]
    exact ⟨⟨by grind, hi, L1, W1⟩, e', U1⟩
  · rw [e]
    have c0 : ((0 : Int) : Rat) = 0 := rfl
    exact ⟨⟨by rw [c0]; grind, hi, H0, by unfold smH; omega⟩, by decide, U1⟩
theorem near_enc {h : Int} (h0 : 0 ≤ h) (h1 : h ≤ 32400000) : Enc (nrL h) (nrH h) (c (2 * h.toNat)) ∧ 0 ≤ nrL h ∧ nrH h ≤ 1000000000 := by
  obtain ⟨a0, a1, a2, _⟩ := arc_bd h0 h1
  obtain ⟨y0, y1, y2, y3, y4⟩ := arc_of h0 h1
  have x1 : xx (2 * h.toNat) ≤ 1 := by grind
  obtain ⟨r1, r2, r3, r4⟩ := rowC_enc a0 (by omega) 6 (by decide)
  obtain ⟨t1, t2, t3, t4⟩ := rowC_enc (show 0 ≤ aH h by omega) a2 6 (by decide)
  obtain ⟨_, v2, _, _⟩ := rowC_enc a0 (by omega) 7 (by decide)
  have m1 := pcos7_mono y0 y1 x1
  have m2 := pcos7_mono (show 0 ≤ xx (2 * h.toNat) by grind) y2 (by grind)
  have m3 := pcos8_mono y0 y1 x1
  have sl := pcos7_slope y0 (show un (aL h) ≤ un (aH h) by grind) (by grind)
  have s1 := c_ge _ x1
  have s2 := c_le _ x1
  have cl := TS.c_le (2 * h.toNat)
  have p0 : pcos 7 (un (aH h)) ≤ 1 ∧ 1 / 2 ≤ pcos 7 (un (aH h)) := by
    have k0 : pcos 7 0 = 1 := by decide +kernel
    have k1 := pcos7_mono (show (0 : Rat) ≤ 0 by grind) (show (0 : Rat) ≤ un (aH h) by grind) (by grind)
    have k2 := pcos7_mono (show 0 ≤ un (aH h) by grind) y3 (by decide +kernel)
    have k3 : (1 / 2 : Rat) ≤ pcos 7 (785398164 / 1000000000) := by decide +kernel
    constructor <;> grind
  have tn : (1000000000 : Rat) * tiny ≤ 1 / 1000 := by decide +kernel
  have t0 : (0 : Rat) ≤ tiny := by decide +kernel
  generalize pcos 7 (un (aL h)) = p1 at *
  generalize pcos 7 (xx (2 * h.toNat)) = p2 at *
  generalize pcos 7 (un (aH h)) = p3 at *
  generalize pcos 8 (un (aL h)) = p4 at *
  generalize pcos 8 (xx (2 * h.toNat)) = p5 at *
  generalize c (2 * h.toNat) = sv at *
  have c9 : ((1000000000 : Int) : Rat) = 1000000000 := rfl
  have L0 : (0 : Int) ≤ (rowC (aH h)).1 := cast_lt (by have c0 : ((0 : Int) : Rat) = 0 := rfl; rw [c0]; grind)
  have L9 : (rowC (aH h)).1 ≤ 1000000000 := cast_lt (by rw [c9]; grind)
  have L1 : (rowC (aH h)).1 ≤ (rowC (aL h)).2 := cast_lt (by grind)
  have W1 : (rowC (aL h)).2 ≤ (rowC (aH h)).1 + 64 := cast_lt (by have c0 : ((64 : Int) : Rat) = 64 := rfl; rw [cast_add, c0]; grind)
  have lo : ((rowC (aH h)).1 : Rat) ≤ 1000000000 * sv + 1 / 1000 := by grind
  rcases (show nrH h = (rowC (aL h)).2 ∧ (rowC (aL h)).2 ≤ 1000000000 ∨ nrH h = 1000000000 ∧ 1000000000 ≤ (rowC (aL h)).2 by unfold nrH; omega) with ⟨e, e'⟩ | ⟨e, e'⟩
  · rw [e]
    exact ⟨⟨lo, by grind, L1, W1⟩, L0, e'⟩
  · rw [e]
    exact ⟨⟨lo, by rw [c9]; grind, L9, by unfold nrL; omega⟩, L0, by decide⟩
end SI
end Go.Proofs.Ytfdkpcejjcifgal
