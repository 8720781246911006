/-
  An arc is not longer than its tangent. No Go text in sight.
-/
import Derived.Test.YthefibnjaoimgaiDoorSineLaws
namespace Go.Proofs.YthefibnjaoimgaiDoor
namespace SI
set_option linter.unusedVariables false
open TS (mul_le sq_nonneg ev neg ab ab_bd q c s xx)
def subL : List Rat → List Rat → List Rat
  | [], B => neg B
  | a :: A, [] => a :: A
  | a :: A, b :: B => (a - b) :: subL A B
theorem ev_sub (y : Rat) : ∀ (A B : List Rat) (k : Nat), ev k (subL A B) y = ev k A y - ev k B y := by
  intro A
  induction A with
  | nil => intro B k; simp only [subL, TS.ev_neg, ev]; grind
  | cons a A ih =>
    intro B k
    cases B with
    | nil => simp only [subL, ev]; grind
    | cons b B =>
      simp only [subL, ev, ih]
      grind
/-- What is behind the first three powers. -/
def rest : List Rat := ((subL (lst 7 1 2) (lst 8 1 1)).drop 3)
theorem head_tan : subL (lst 7 1 2) (lst 8 1 1) = 0 :: 0 :: (1 / 3) :: rest := by decide +kernel
theorem rest_small : tot rest ≤ 1 / 20 := by decide +kernel
/-- The row of the cosine times the arc is not above that of the sine. -/
theorem poly_tan {y : Rat} (y0 : 0 ≤ y) (y1 : y ≤ 1) : y * pcos 8 y ≤ psin 7 y := by
  have h2 : y * pcos 8 y = ev 1 (lst 8 1 1) y := (ev_shift y (lst 8 1 1) 0).symm
  rw [h2]
  have h3 := ev_sub y (lst 7 1 2) (lst 8 1 1) 1
  rw [head_tan] at h3
  simp only [ev] at h3
  have t := (ev_tot y0 y1 rest 1).2
  have r := rest_small
  have e4 : ev (1 + 1 + 1 + 1) rest y = y * (y * (y * ev 1 rest y)) := by
    rw [ev_shift, ev_shift, ev_shift]
  rw [e4] at h3
  have p3 : y ^ (1 + 1 + 1) = y * y * y := by
    rw [Rat.pow_succ, Rat.pow_succ, Rat.pow_succ, Rat.pow_zero]
    grind
  rw [p3] at h3
  have yy := Rat.mul_nonneg (Rat.mul_nonneg y0 y0) y0
  have g := Rat.mul_nonneg yy (show 0 ≤ 1 / 3 + ev 1 rest y by grind)
  unfold psin
  grind
theorem c_eighth {h : Int} (h0 : 0 ≤ h) (h1 : h ≤ 32400000) : 7 / 10 ≤ c (2 * h.toNat) := by
  have x1 := xx_arc h0 h1
  have x0 := xx_nn (2 * h.toNat)
  have g := c_ge (2 * h.toNat) (by grind)
  have m := pcos7_mono (a := xx (2 * h.toNat)) (b := 785398164 / 1000000000) x0 x1 (by decide +kernel)
  have k : (7 / 10 : Rat) ≤ pcos 7 (785398164 / 1000000000) - tiny := by decide +kernel
  grind
theorem true_tan {h : Int} (h0 : 0 ≤ h) (h1 : h ≤ 32400000) : xx (2 * h.toNat) * c (2 * h.toNat) ≤ s (2 * h.toNat) + 2 * tiny := by
  have x1 := xx_arc h0 h1
  have x0 := xx_nn (2 * h.toNat)
  have p := poly_tan x0 (show xx (2 * h.toNat) ≤ 1 by grind)
  have g := s_ge (2 * h.toNat) (by grind)
  have k := c_le (2 * h.toNat) (by grind)
  have m := mul_le k x0
  have tn : 0 ≤ tiny := by decide +kernel
  have m2 := mul_le (show xx (2 * h.toNat) ≤ 1 by grind) tn
  grind
/-- An arc is not above its tangent. -/
theorem arc_tan {h : Int} (h0 : 0 ≤ h) (h1 : h ≤ 32400000) : aL h ≤ SM.divHi (siL h) (siH h) (siL (h + 64800000)) (siH (h + 64800000)) := by
  obtain ⟨i1, f1⟩ := si_enc h
  obtain ⟨i2, f2⟩ := ci_enc h
  have e : h % 259200000 = h := by omega
  have l := i1.hi
  have u := i2.lo
  have v := i2.hi
  unfold S at l
  unfold C at u v
  rw [e] at l u v
  have t := true_tan h0 h1
  have ce := c_eighth h0 h1
  have ar := (arc_x (h := h) h0).1
  have x1 := xx_arc h0 h1
  have x0 := xx_nn (2 * h.toNat)
  have tn : tiny ≤ 1 / 10000000000000 := by decide +kernel
  have wd := cast_ge f2.d
  rw [cast_add] at wd
  have c64 : ((64 : Int) : Rat) = 64 := rfl
  rw [c64] at wd
  -- the corner of the sine's upper end and the cosine's lower end
  have cl : 1 ≤ siL (h + 64800000) := le_of_near (e := 0) (by have c1 : ((1 : Int) : Rat) = 1 := rfl; rw [c1]; grind) (by grind)
  have key : aL h ≤ SM.qu (siH h) (siL (h + 64800000)) := by
    by_cases g : aL h ≤ SM.qu (siH h) (siL (h + 64800000))
    · exact g
    · exfalso
      have g1 := (SM.qu_pos (a := siH h) (k := aL h - 1) cl).1 (by omega)
      have g2 := cast_ge g1
      rw [cast_mul, cast_mul, cast_sub] at g2
      have c9 : ((1000000000 : Int) : Rat) = 1000000000 := rfl
      have c1 : ((1 : Int) : Rat) = 1 := rfl
      rw [c9, c1] at g2
      have cp := cast_ge cl
      rw [c1] at cp
      have a1 := mul_le ar (x := (siL (h + 64800000) : Rat)) (by grind)
      have a2 := mul_le u (x := xx (2 * h.toNat)) x0
      clear i1 i2 f1 f2 e g1 g cl
      generalize s (2 * h.toNat) = sv at *
      generalize xx (2 * h.toNat) = y at *
      generalize c (2 * h.toNat) = cv at *
      generalize (siL (h + 64800000) : Rat) = L at *
      generalize (siH (h + 64800000) : Rat) = H at *
      generalize (siH h : Rat) = T at *
      generalize (aL h : Rat) = A at *
      grind
  unfold SM.divHi
  omega
end SI
end Go.Proofs.YthefibnjaoimgaiDoor
