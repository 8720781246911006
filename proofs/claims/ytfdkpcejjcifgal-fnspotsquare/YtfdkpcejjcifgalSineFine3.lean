/-
  The rows of an eighth of a turn have the true sine and cosine between them, without anything over. No Go text in sight.
-/
import Derived.Test.YtfdkpcejjcifgalSineFine2
namespace Go.Proofs.Ytfdkpcejjcifgal
namespace SI
set_option linter.unusedVariables false
open TS (mul_le sq_nonneg ev neg ab ab_bd q c s xx)
/-! ### sines -/
theorem rowS_one {a : Int} (h0 : 1 ≤ a) (h1 : a ≤ 31622) : rowS a = (a - 1, a + 1) := by
  have p : 1 ≤ a * a := by have := Int.mul_le_mul h0 h0 (by decide) (by omega); omega
  have p2 : a * a ≤ 999950884 := by have := Int.mul_le_mul h1 h1 (by omega) (by decide); omega
  have t1 : tU a a = 1 := by unfold tU NM.up; generalize a * a = z at *; omega
  have t2 : tD a a = 0 := by unfold tD NM.down; generalize a * a = z at *; omega
  have t3 : tU a 1 = 1 := by unfold tU NM.up; omega
  have t4 : tD a 0 = 0 := by unfold tD NM.down; omega
  unfold rowS
  rw [row_stop (by omega) (by decide) ?_ ?_]
  · rw [t1, t3]; decide
  · rw [t2, t4]; decide
theorem psin7_le {y : Rat} (h0 : 0 ≤ y) (h1 : y ≤ 785398164 / 1000000000) : psin 8 y ≤ y ∧ y - 1 / 6 * (y * y * y) ≤ psin 7 y := by
  have r0 := sq_nonneg y
  have r1 : y * y ≤ 1 := by have := sq_mono h0 h1; have k : (785398164 / 1000000000 : Rat) * (785398164 / 1000000000) ≤ 1 := by decide +kernel
                            grind
  have e8 := al_lst y 8 1 1 2
  have e7 := al_lst y 7 1 1 2
  have p1 : (1 : Rat) * y ^ 1 = y := by rw [Rat.pow_succ, Rat.pow_zero]; grind
  rw [p1] at e8 e7
  have b8 := (al_bd r0 r1 8 y 2 h0 (by decide)).2
  have u7 : al (y * y) 7 y 2 = y - al (y * y) 6 (y * (y * y) / (((2 : Int) * (2 + 1) : Int) : Rat)) (2 + 2) := rfl
  have c6 : (((2 : Int) * (2 + 1) : Int) : Rat) = 6 := by decide +kernel
  rw [c6] at u7
  have n3 : 0 ≤ y * (y * y) := Rat.mul_nonneg h0 r0
  have i6 : (6 : Rat)⁻¹ = 1 / 6 := by decide +kernel
  have b6 := (al_bd r0 r1 6 (y * (y * y) / 6) (2 + 2) (by rw [Rat.div_def, i6]; grind) (by decide)).2
  rw [Rat.div_def, i6] at b6 u7
  constructor
  · show ev 1 (lst 8 1 2) y ≤ y
    rw [← e8]; exact b8
  · show y - 1 / 6 * (y * y * y) ≤ ev 1 (lst 7 1 2) y
    rw [← e7, u7]
    rw [show y * y * y = y * (y * y) by grind]
    generalize al (y * y) 6 (y * (y * y) * (1 / 6)) (2 + 2) = z at *
    generalize y * (y * y) = w at *
    grind
structure EncF (L H : Int) (v : Rat) : Prop where
  lo : (L : Rat) ≤ 1000000000 * v
  hi : 1000000000 * v ≤ (H : Rat)
theorem small_encF {h : Int} (h0 : 1 ≤ h) (h1 : h ≤ 32400000) : EncF (smL h) (smH h) (s (2 * h.toNat)) := by
  obtain ⟨a0, a1, a2, a3⟩ := arc_bd (h := h) (by omega) h1
  obtain ⟨y0, y1, y2, y3, y4⟩ := arc_of (h := h) (by omega) h1
  obtain ⟨f1, f2, f3, f4⟩ := arc_far (h := h) (by omega)
  have x1 : xx (2 * h.toNat) ≤ 1 := by grind
  have x0 := xx_nn (2 * h.toNat)
  have s1 := s_geF _ x1
  have s2 := s_leF _ x1
  have um := un_mul (aL h)
  have uM := un_mul (aH h)
  have hc := cast_ge h0
  have c1 : ((1 : Int) : Rat) = 1 := rfl
  have c0 : ((0 : Int) : Rat) = 0 := rfl
  rw [c1] at hc
  by_cases z : h ≤ 1000
  · -- the row stops at once, a whole part further
    have l0 := aL_pos h0
    have lm : aH h ≤ 31622 := by unfold aH NM.up; omega
    have e1 := rowS_one l0 (show aL h ≤ 31622 by omega)
    have e2 := rowS_one (show 1 ≤ aH h by omega) lm
    have hz := cast_ge z
    have c9 : ((1000 : Int) : Rat) = 1000 := rfl
    rw [c9] at hz
    have xs : xx (2 * h.toNat) ≤ 1 / 10000 := by grind
    obtain ⟨q8, q7⟩ := psin7_le x0 (by grind)
    have sq := sq_mono x0 xs
    have cu := mul_le sq x0
    have tn : (1000000000 : Rat) * tinyF ≤ 1 / 1000 := by decide +kernel
    have eL : smL h = aL h - 1 := by unfold smL; rw [e1]; show max (aL h - 1) 0 = _; omega
    have eH : smH h = aH h + 1 := by unfold smH; rw [e2]
    rw [eL, eH]
    have k1 : ((aL h - 1 : Int) : Rat) = (aL h : Rat) - 1 := by push_cast; rfl
    have k2 : ((aH h + 1 : Int) : Rat) = (aH h : Rat) + 1 := by push_cast; rfl
    refine ⟨?_, ?_⟩
    · rw [k1]
      generalize xx (2 * h.toNat) = x at *
      have : x * x * x ≤ 1 / 1000000000000 := by grind
      generalize x * x * x = w at *
      clear sq cu
      grind
    · rw [k2]
      generalize xx (2 * h.toNat) = x at *
      clear sq cu q7
      grind
  · -- the arcs are well apart
    have hz := cast_ge (show 1000 ≤ h by omega)
    have c9 : ((1000 : Int) : Rat) = 1000 := rfl
    rw [c9] at hz
    obtain ⟨r1, _, _, _⟩ := rowS_enc a0 (by omega) 6 (by decide)
    obtain ⟨_, v2, _, _⟩ := rowS_enc (show 0 ≤ aH h by omega) a2 7 (by decide)
    have m1 := psin7_fast y0 y1 x1
    have m3 := psin8_fast x0 y2 (by grind)
    have tt : tinyF ≤ 4 / 10 * (1000 * (1 / 100000000000000000)) := by decide +kernel
    have nn : (0 : Rat) ≤ s (2 * h.toNat) := by
      have m4 := psin7_mono (show (0 : Rat) ≤ 0 by grind) y0 (by grind)
      rw [psin_zero] at m4
      grind
    refine ⟨?_, ?_⟩
    · rcases (show smL h = (rowS (aL h)).1 ∨ smL h = 0 by unfold smL; omega) with e | e
      · rw [e]
        generalize psin 7 (un (aL h)) = p1 at *
        generalize psin 7 (xx (2 * h.toNat)) = p2 at *
        generalize s (2 * h.toNat) = sv at *
        generalize xx (2 * h.toNat) = x at *
        clear m3 v2 s2
        grind
      · rw [e, c0]
        grind
    · show 1000000000 * s (2 * h.toNat) ≤ ((rowS (aH h)).2 : Rat)
      generalize psin 8 (un (aH h)) = p1 at *
      generalize psin 8 (xx (2 * h.toNat)) = p2 at *
      generalize s (2 * h.toNat) = sv at *
      generalize xx (2 * h.toNat) = x at *
      clear m1 r1 s1
      grind
end SI
end Go.Proofs.Ytfdkpcejjcifgal
