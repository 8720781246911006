/-
  The rows of an eighth of a turn have the true cosine between them, without anything over. No Go text in sight.
-/
import Derived.Test.YtfdkpcejjcifgalSineFine3
namespace Go.Proofs.Ytfdkpcejjcifgal
namespace SI
set_option linter.unusedVariables false
open TS (mul_le sq_nonneg ev neg ab ab_bd q c s xx)
/-! ### cosines -/
theorem rowC_two' {x : Int} (h1 : 2000000000 ≤ x * x) (h2 : x * x ≤ 30000000000000) : (rowC x).2 = 1000000000 - NM.down (tD x x) 2 + 1 := by
  unfold rowC
  have t1 : 2 ≤ tU x x ∧ tU x x ≤ 30000 := by unfold tU NM.up; generalize x * x = z at *; omega
  have t2 : 2 ≤ tD x x ∧ tD x x ≤ 30000 := by unfold tD NM.down; generalize x * x = z at *; omega
  have e2 : (1 : Int) * (1 + 1) = 2 := by decide
  have e12 : (1 + 2 : Int) * (1 + 2 + 1) = 12 := by decide
  rw [row_on (by decide) (by decide) ?_]
  · rw [tU9, tD9, e2]
    have u1 : 1 ≤ NM.up (tU x x) 2 ∧ NM.up (tU x x) 2 ≤ 15000 := by unfold NM.up; omega
    have d1 : 1 ≤ NM.down (tD x x) 2 ∧ NM.down (tD x x) 2 ≤ 15000 := by unfold NM.down; omega
    have m1 := Int.mul_le_mul u1.2 t1.2 (by omega) (by decide)
    have m2 : 1 ≤ NM.up (tU x x) 2 * tU x x := by have := Int.mul_le_mul u1.1 t1.1 (by omega) (by omega); omega
    have m3 := Int.mul_le_mul d1.2 t2.2 (by omega) (by decide)
    have m4 : 0 ≤ NM.down (tD x x) 2 * tD x x := Int.mul_nonneg (by omega) (by omega)
    have s1 : NM.up (tU (NM.up (tU x x) 2) (tU x x)) ((1 + 2) * (1 + 2 + 1)) = 1 := by
      rw [e12]
      rw [show tU (NM.up (tU x x) 2) (tU x x) = NM.up (NM.up (tU x x) 2 * tU x x) 1000000000 from rfl]
      generalize NM.up (tU x x) 2 * tU x x = z at *
      unfold NM.up
      omega
    have s2 : NM.down (tD (NM.down (tD x x) 2) (tD x x)) ((1 + 2) * (1 + 2 + 1)) = 0 := by
      rw [e12]
      rw [show tD (NM.down (tD x x) 2) (tD x x) = NM.down (NM.down (tD x x) 2 * tD x x) 1000000000 from rfl]
      generalize NM.down (tD x x) 2 * tD x x = z at *
      unfold NM.down
      omega
    rw [row_stop (by omega) (by decide) s1 s2]
  · rw [tU9, tD9, e2]
    intro hc
    have := hc.2
    unfold NM.down at this
    omega
theorem s_lin (n : Nat) : s n ≤ xx n ∧ -xx n ≤ s n := by
  induction n with
  | zero => rw [TS.s0, TS.xx0]; constructor <;> grind
  | succ n ih =>
    obtain ⟨i1, i2⟩ := ih
    have x0 := xx_nn n
    have b := c_bd n
    have q0 := TS.q_pos
    have p0 := TS.p_pos
    have p1 := TS.p_le
    have e := TS.xx_succ n
    rw [TS.s_succ, e]
    have g1 := mul_le b.1 (x := q) (by grind)
    have g2 := mul_le b.2 (x := q) (by grind)
    have m1 := mul_le i1 (x := TS.p) (by grind)
    have m2 := mul_le i2 (x := TS.p) (by grind)
    have m3 := mul_le p1 x0
    generalize xx n = x at *
    generalize s n = y at *
    generalize c n = z at *
    generalize TS.p = p at *
    generalize q = r at *
    constructor <;> grind
theorem c_quad (m : Nat) : 1 - 2 * (xx m * xx m) ≤ c (m + m) := by
  obtain ⟨_, e2⟩ := TS.add m m
  have l := TS.len m
  obtain ⟨a, b⟩ := s_lin m
  have g := rmul_bd (x := s m) (y := s m) (A := xx m) (B := xx m) b a b a
  rw [e2]
  grind
theorem xx_dbl (m : Nat) : xx (m + m) = 2 * xx m := by
  unfold xx
  have : ((m + m : Nat) : Rat) = (m : Rat) + (m : Rat) := by push_cast; rfl
  rw [this]
  grind
theorem pcos8_le {y : Rat} (h0 : 0 ≤ y) (h1 : y ≤ 785398164 / 1000000000) : pcos 8 y ≤ 1 - 1 / 2 * (y * y) + (y * y) * (y * y) := by
  have r0 := sq_nonneg y
  have r1 : y * y ≤ 1 := by
    have := sq_mono h0 h1
    have k : (785398164 / 1000000000 : Rat) * (785398164 / 1000000000) ≤ 1 := by decide +kernel
    grind
  rw [pcos_al]
  have h2 := al_lr (y * y) 8 1 1
  rw [← show (1 : Rat) * ev 0 (lr 8 1) (y * y) = ev 0 (lr 8 1) (y * y) by grind, ← h2]
  have e8 : al (y * y) 8 1 1 = 1 - al (y * y) 7 (1 * (y * y) / (((1 : Int) * (1 + 1) : Int) : Rat)) (1 + 2) := rfl
  have c2 : (((1 : Int) * (1 + 1) : Int) : Rat) = 2 := by decide +kernel
  rw [e8, c2]
  have i2 : (2 : Rat)⁻¹ = 1 / 2 := by decide +kernel
  rw [Rat.div_def, i2]
  have e7 : al (y * y) 7 (1 * (y * y) * (1 / 2)) (1 + 2) = 1 * (y * y) * (1 / 2) - al (y * y) 6 (1 * (y * y) * (1 / 2) * (y * y) / ((((1 + 2) : Int) * ((1 + 2) + 1) : Int) : Rat)) (1 + 2 + 2) := rfl
  have c12 : ((((1 + 2) : Int) * ((1 + 2) + 1) : Int) : Rat) = 12 := by decide +kernel
  rw [e7, c12]
  have i12 : (12 : Rat)⁻¹ = 1 / 12 := by decide +kernel
  rw [show ∀ z : Rat, z / 12 = z * (1 / 12) from fun z => by rw [Rat.div_def, i12]]
  have n4 := Rat.mul_nonneg r0 r0
  have bd := (al_bd r0 r1 6 (1 * (y * y) * (1 / 2) * (y * y) * (1 / 12)) (1 + 2 + 2) (by grind) (by decide)).2
  generalize al (y * y) 6 (1 * (y * y) * (1 / 2) * (y * y) * (1 / 12)) (1 + 2 + 2) = w at *
  generalize y * y = r at *
  grind
/-- Squares that are so far apart. -/
theorem sq_apart {h x y d : Rat} (d0 : 0 ≤ h) (h1 : h * (24 / 1000000000) ≤ x) (h2 : x + h * (1 / 100000000000000000) ≤ y) (z : 200000 ≤ h) : 3 / 1000000000000000 ≤ 4 / 10 * (y * y - x * x) := by
  have a : 0 ≤ (y - x - h * (1 / 100000000000000000)) * (y + x) := Rat.mul_nonneg (by grind) (by grind)
  have b : 0 ≤ h * (y + x - 2 * (h * (24 / 1000000000))) := Rat.mul_nonneg d0 (by grind)
  have c := sq_mono (show (0 : Rat) ≤ 200000 by decide) z
  grind
theorem near_encF {h : Int} (h0 : 1 ≤ h) (h1 : h ≤ 32400000) : EncF (nrL h) (nrH h) (c (2 * h.toNat)) := by
  obtain ⟨a0, a1, a2, a3⟩ := arc_bd (h := h) (by omega) h1
  obtain ⟨y0, y1, y2, y3, y4⟩ := arc_of (h := h) (by omega) h1
  obtain ⟨f1, f2, f3, f4⟩ := arc_far (h := h) (by omega)
  have x1 : xx (2 * h.toNat) ≤ 1 := by grind
  have x0 := xx_nn (2 * h.toNat)
  have s1 := c_geF _ x1
  have s2 := c_leF _ x1
  have um := un_mul (aL h)
  have uM := un_mul (aH h)
  have l0 := aL_pos h0
  have c9 : ((1000000000 : Int) : Rat) = 1000000000 := rfl
  have cb := (c_bd (2 * h.toNat)).1
  have hh := cast_ge (show 0 ≤ h by omega)
  have c0 : ((0 : Int) : Rat) = 0 := rfl
  rw [c0] at hh
  refine ⟨?_, ?_⟩
  · by_cases z : aH h * aH h < 2000000000
    · rw [(near_top h0 h1 z).2]
      have k := c_quad h.toNat
      have xd := xx_dbl h.toNat
      have e : h.toNat + h.toNat = 2 * h.toNat := by omega
      rw [e] at k xd
      have zz := cast_ge (show aH h * aH h ≤ 2000000000 by omega)
      rw [cast_mul] at zz
      have c2 : ((2000000000 : Int) : Rat) = 2000000000 := rfl
      have c3 : ((999999999 : Int) : Rat) = 999999999 := rfl
      rw [c2] at zz
      rw [c3]
      have sq := sq_mono x0 y2
      rw [← uM] at zz
      generalize c (2 * h.toNat) = cv at *
      generalize xx (2 * h.toNat) = x at *
      generalize xx h.toNat = w at *
      generalize un (aH h) = y at *
      clear s1 s2 f1 f2 f3 f4 y4 um uM y1
      have e1 : x * x = 4 * (w * w) := by rw [xd]; grind
      have e2 : y * 1000000000 * (y * 1000000000) = y * y * 1000000000000000000 := by grind
      rw [e2] at zz
      clear e2 xd
      generalize y * y = yy at *
      generalize x * x = xq at *
      generalize w * w = wq at *
      grind
    · by_cases g : h ≤ 200000
      · have := near_low h0 g (by omega)
        grind
      · have hz := cast_ge (show 200000 ≤ h by omega)
        have ch : ((200000 : Int) : Rat) = 200000 := rfl
        rw [ch] at hz
        obtain ⟨r1, _, _, _⟩ := rowC_enc (show 0 ≤ aH h by omega) a2 6 (by decide)
        have m := pcos7_fast x0 y2 (by grind)
        have sa := sq_apart (d := 0) hh f3 f2 hz
        show ((rowC (aH h)).1 : Rat) ≤ _
        unfold tinyF at s1
        generalize pcos 7 (un (aH h)) = p1 at *
        generalize pcos 7 (xx (2 * h.toNat)) = p2 at *
        generalize c (2 * h.toNat) = cv at *
        generalize un (aH h) * un (aH h) - xx (2 * h.toNat) * xx (2 * h.toNat) = d at *
        clear f1 f2 f3 f4 s2
        grind
  · have key : 1000000000 * c (2 * h.toNat) ≤ ((rowC (aL h)).2 : Rat) := by
      by_cases z : aL h * aL h < 2000000000
      · rw [rowC_one l0 z]
        show _ ≤ ((1000000001 : Int) : Rat)
        have c3 : ((1000000001 : Int) : Rat) = 1000000001 := rfl
        rw [c3]
        grind
      · by_cases g : h ≤ 200000
        · have b : aL h ≤ 4848137 := by unfold aL NM.down; omega
          have q1 := sq_int (show 0 ≤ aL h by omega) b
          rw [rowC_two' (by omega) (by omega)]
          obtain ⟨t1, _⟩ := down_bd (aL h * aL h) (m := 1000000000) (by decide)
          obtain ⟨t2, _⟩ := down_bd (tD (aL h) (aL h)) (m := 2) (by decide)
          rw [cast_mul] at t1
          have c2 : ((2 : Int) : Rat) = 2 := rfl
          rw [c9] at t1
          rw [c2] at t2
          change (tD (aL h) (aL h) : Rat) * 1000000000 ≤ _ at t1
          have en : ((1000000000 - NM.down (tD (aL h) (aL h)) 2 + 1 : Int) : Rat) = 1000000000 - (NM.down (tD (aL h) (aL h)) 2 : Rat) + 1 := by push_cast; rfl
          rw [en]
          have pl := pcos8_le x0 (by grind)
          have hz := cast_ge g
          have ch : ((200000 : Int) : Rat) = 200000 := rfl
          rw [ch] at hz
          have xs : xx (2 * h.toNat) ≤ 5 / 1000 := by grind
          have sq := sq_mono x0 xs
          have sq2 := sq_mono y0 y1
          have n2 := sq_nonneg (xx (2 * h.toNat))
          have sq4 := sq_mono n2 sq
          have tn : (1000000000 : Rat) * tinyF ≤ 1 / 1000 := by decide +kernel
          rw [← um] at t1
          clear en q1 f1 f2 f3 f4 y4 s1 xs hz um uM y1 y2 y3
          generalize (NM.down (tD (aL h) (aL h)) 2 : Rat) = D1 at *
          generalize (tD (aL h) (aL h) : Rat) = T1 at *
          generalize pcos 8 (xx (2 * h.toNat)) = p1 at *
          generalize c (2 * h.toNat) = cv at *
          have e2 : un (aL h) * 1000000000 * (un (aL h) * 1000000000) = un (aL h) * un (aL h) * 1000000000000000000 := by grind
          rw [e2] at t1
          clear e2
          generalize xx (2 * h.toNat) * xx (2 * h.toNat) = xq at *
          generalize un (aL h) * un (aL h) = yq at *
          generalize xq * xq = x4 at *
          grind
        · have hz := cast_ge (show 200000 ≤ h by omega)
          have ch : ((200000 : Int) : Rat) = 200000 := rfl
          rw [ch] at hz
          obtain ⟨_, v2, _, _⟩ := rowC_enc a0 (by omega) 7 (by decide)
          have m := pcos8_fast y0 y1 x1
          have sa : 3 / 1000000000000000 ≤ 4 / 10 * (xx (2 * h.toNat) * xx (2 * h.toNat) - un (aL h) * un (aL h)) := by
            have a : 0 ≤ (xx (2 * h.toNat) - un (aL h) - (h : Rat) * (1 / 100000000000000000)) * (xx (2 * h.toNat) + un (aL h)) := Rat.mul_nonneg (by grind) (by grind)
            have b : 0 ≤ (h : Rat) * (xx (2 * h.toNat) + un (aL h) - (h : Rat) * (24 / 1000000000)) := Rat.mul_nonneg hh (by grind)
            have k := sq_mono (show (0 : Rat) ≤ 200000 by decide) hz
            generalize xx (2 * h.toNat) = x at *
            generalize un (aL h) = y at *
            generalize (h : Rat) = w at *
            clear f1 f2 f3 f4 m v2 s1 s2 y4 um uM y1 y2
            grind
          unfold tinyF at s2
          generalize pcos 8 (un (aL h)) = p1 at *
          generalize pcos 8 (xx (2 * h.toNat)) = p2 at *
          generalize c (2 * h.toNat) = cv at *
          generalize xx (2 * h.toNat) * xx (2 * h.toNat) - un (aL h) * un (aL h) = d at *
          clear f1 f2 f3 f4 s1
          grind
    rcases (show nrH h = (rowC (aL h)).2 ∨ nrH h = 1000000000 by unfold nrH; omega) with e | e
    · rw [e]; exact key
    · rw [e, c9]; grind
end SI
end Go.Proofs.Ytfdkpcejjcifgal
