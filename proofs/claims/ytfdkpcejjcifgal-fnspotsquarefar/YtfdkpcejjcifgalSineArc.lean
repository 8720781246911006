/-
  Arcs, and the rows of an eighth of a turn. No Go text in sight.
-/
import Derived.Test.YtfdkpcejjcifgalSineBetween
namespace Go.Proofs.Ytfdkpcejjcifgal
set_option linter.unusedVariables false
namespace SI
open TS (mul_le sq_nonneg ev neg ab ab_bd q c s xx)
/-! ### arcs, and the spans of an eighth of a turn -/
def aL (h : Int) : Int := NM.down (h * 785398163) 32400000
def aH (h : Int) : Int := NM.up (h * 785398164) 32400000
def rowS (a : Int) : Int × Int := row 21 a a a a true a 2
def rowC (x : Int) : Int × Int := row 21 1000000000 1000000000 1000000000 1000000000 true x 1
def smL (h : Int) : Int := max (rowS (aL h)).1 0
def smH (h : Int) : Int := (rowS (aH h)).2
def nrL (h : Int) : Int := (rowC (aH h)).1
def nrH (h : Int) : Int := min (rowC (aL h)).2 1000000000
theorem arc_bd {h : Int} (h0 : 0 ≤ h) (h1 : h ≤ 32400000) : 0 ≤ aL h ∧ aL h ≤ aH h ∧ aH h ≤ 785398164 ∧ aH h ≤ aL h + 3 := by
  unfold aL aH NM.down NM.up
  omega
theorem arc_x {h : Int} (h0 : 0 ≤ h) : (aL h : Rat) ≤ xx (2 * h.toNat) * 1000000000 ∧ xx (2 * h.toNat) * 1000000000 ≤ (aH h : Rat) := by
  obtain ⟨a1, _⟩ := down_bd (h * 785398163) (m := 32400000) (by decide)
  obtain ⟨b1, _⟩ := up_bd (h * 785398164) (m := 32400000) (by decide)
  rw [cast_mul] at a1 b1
  have e : ((2 * h.toNat : Nat) : Rat) = 2 * (h : Rat) := by
    have : ((h.toNat : Nat) : Int) = h := Int.toNat_of_nonneg h0
    have e2 : ((h.toNat : Nat) : Rat) = (h : Rat) := by
      rw [← Rat.intCast_natCast, this]
    push_cast
    rw [e2]
  have hh := cast_ge h0
  have k1 : (785398163 : Rat) ≤ q * 2 * 1000000000 * 32400000 := by decide +kernel
  have k2 : q * 2 * 1000000000 * 32400000 ≤ (785398164 : Rat) := by decide +kernel
  have g1 := mul_le k1 (x := (h : Rat)) (by simpa using hh)
  have g2 := mul_le k2 (x := (h : Rat)) (by simpa using hh)
  unfold xx
  rw [e]
  change (aL h : Rat) * ((32400000 : Int) : Rat) ≤ (h : Rat) * ((785398163 : Int) : Rat) at a1
  change (h : Rat) * ((785398164 : Int) : Rat) ≤ (aH h : Rat) * ((32400000 : Int) : Rat) at b1
  have c1 : ((32400000 : Int) : Rat) = 32400000 := rfl
  have c2 : ((785398163 : Int) : Rat) = 785398163 := rfl
  have c3 : ((785398164 : Int) : Rat) = 785398164 := rfl
  rw [c1, c2] at a1
  rw [c1, c3] at b1
  generalize (aL h : Rat) = u at *
  generalize (aH h : Rat) = v at *
  generalize (h : Rat) = w at *
  constructor
  · refine le_of_mul (m := 32400000) (by decide) ?_
    grind
  · refine le_of_mul (m := 32400000) (by decide) ?_
    grind
theorem al_hom (r t : Rat) (J : Nat) (T : Rat) (n : Int) : al r J (t * T) n = t * al r J T n := by
  rw [al_lr, al_lr]
  grind
/-- A number, by its unit. -/
def un (a : Int) : Rat := (a : Rat) / 1000000000
theorem un_mul (a : Int) : un a * 1000000000 = (a : Rat) := by unfold un; rw [Rat.div_def]; grind
theorem un_bd {a : Int} (h0 : 0 ≤ a) (h1 : a ≤ 785398164) : 0 ≤ un a ∧ un a ≤ 785398164 / 1000000000 := by
  have e := un_mul a
  have g0 := cast_ge h0
  have g1 := cast_ge h1
  have c1 : ((785398164 : Int) : Rat) = 785398164 := rfl
  have c0 : ((0 : Int) : Rat) = 0 := rfl
  rw [c1] at g1
  rw [c0] at g0
  generalize un a = y at *
  constructor <;> grind
theorem un_sq {a : Int} (h0 : 0 ≤ a) (h1 : a ≤ 785398164) : un a * un a * 1000000000000000000 = (a : Rat) * (a : Rat) ∧ 0 ≤ un a * un a ∧ un a * un a ≤ 62 / 100 := by
  obtain ⟨u0, u1⟩ := un_bd h0 h1
  have e := un_mul a
  refine ⟨by rw [← e]; grind, sq_nonneg _, ?_⟩
  have := sq_mono u0 u1
  grind
theorem chainS : chain 5 2 785398164 = true := by decide +kernel
theorem chainC : chain 6 1 1000000000 = true := by decide +kernel
theorem rowS_enc {a : Int} (h0 : 0 ≤ a) (h1 : a ≤ 785398164) (J : Nat) (hJ : 5 ≤ J) :
    ((rowS a).1 : Rat) ≤ 1000000000 * psin (J + 1) (un a) ∧ 1000000000 * psin (J + 1) (un a) ≤ ((rowS a).2 : Rat) ∧ 1000000000 * psin (J + 1) (un a) ≤ ((rowS a).1 : Rat) + 20 ∧ ((rowS a).2 : Rat) ≤ 1000000000 * psin (J + 1) (un a) + 20 := by
  obtain ⟨hr, r0, r1⟩ := un_sq h0 h1
  have E := enc h0 (by omega) hr r0 r1 5 21 J 2 785398164 a a a a true (a : Rat) (a : Rat) 0 (by decide) chainS (by decide) hJ h0 (by grind) (by grind) (by grind) (by grind) h1 (by grind) (by grind) (by grind) (by grind)
  have g : goal (un a * un a) J true (a : Rat) (a : Rat) 2 = 1000000000 * psin (J + 1) (un a) := by
    have e1 : goal (un a * un a) J true (a : Rat) (a : Rat) 2 = al (un a * un a) (J + 1) (a : Rat) 2 := rfl
    have e2 := al_lst (un a) (J + 1) 1 1 2
    have e3 : (a : Rat) = 1000000000 * (1 * un a ^ 1) := by
      rw [← un_mul a, Rat.pow_succ, Rat.pow_zero]
      grind
    rw [e1, e3, al_hom, e2]
    rfl
  rw [g] at E
  have k : (0 : Rat) + 3 * ((5 : Nat) : Rat) + 5 = 20 := by decide +kernel
  rw [k] at E
  exact E
theorem rowC_enc {a : Int} (h0 : 0 ≤ a) (h1 : a ≤ 785398164) (J : Nat) (hJ : 6 ≤ J) :
    ((rowC a).1 : Rat) ≤ 1000000000 * pcos (J + 1) (un a) ∧ 1000000000 * pcos (J + 1) (un a) ≤ ((rowC a).2 : Rat) ∧ 1000000000 * pcos (J + 1) (un a) ≤ ((rowC a).1 : Rat) + 23 ∧ ((rowC a).2 : Rat) ≤ 1000000000 * pcos (J + 1) (un a) + 23 := by
  obtain ⟨hr, r0, r1⟩ := un_sq h0 h1
  have c9 : ((1000000000 : Int) : Rat) = 1000000000 := rfl
  have E := enc h0 (by omega) hr r0 r1 6 21 J 1 1000000000 1000000000 1000000000 1000000000 1000000000 true 1000000000 1000000000 0 (by decide) chainC (by decide) hJ (by decide) (by rw [c9]; grind) (by rw [c9]; grind) (by rw [c9]; grind) (by rw [c9]; grind) (by decide) (by rw [c9]; grind) (by rw [c9]; grind) (by rw [c9]; grind) (by rw [c9]; grind)
  have g : goal (un a * un a) J true 1000000000 1000000000 1 = 1000000000 * pcos (J + 1) (un a) := by
    have e1 : goal (un a * un a) J true 1000000000 1000000000 1 = al (un a * un a) (J + 1) 1000000000 1 := rfl
    have e2 := al_lst (un a) (J + 1) 1 0 1
    have e3 : (1000000000 : Rat) = 1000000000 * (1 * un a ^ 0) := by
      rw [Rat.pow_zero]
      grind
    rw [e1, e3, al_hom, e2, ← e3]
    rfl
  rw [g] at E
  have k : (0 : Rat) + 3 * ((6 : Nat) : Rat) + 5 = 23 := by decide +kernel
  rw [k] at E
  exact E
end SI
end Go.Proofs.Ytfdkpcejjcifgal
