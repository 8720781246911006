/-
  The spans of sines have the true ones, but for a very little. No Go text in sight.
-/
import Derived.Test.YtfdkpcejjcifgalSineFine
namespace Go.Proofs.Ytfdkpcejjcifgal
namespace SI
set_option linter.unusedVariables false
open TS (mul_le sq_nonneg ev neg ab ab_bd q c s xx)
/-- A quarter further. -/
theorem turn_qF {N : Nat} (hN : N = 64800000) (n : Nat) : near (s (n + (N + N))) (c n) (2 * epsF) ∧ near (c (n + (N + N))) (-s n) (2 * epsF) := by
  obtain ⟨a1, a2, a3⟩ := quarterF hN
  obtain ⟨e1, e2⟩ := TS.add n (N + N)
  have b1 := s_bd n
  have b2 := c_bd n
  have b3 := s_bd (N + N)
  have z := epsF0
  have m1 := near_mul (x := c (N + N)) (y := 0) (d := epsF) (z := s n) ⟨by grind, by grind⟩ b1.1 b1.2 z
  have m2 := near_mul (x := s (N + N)) (y := 1) (d := epsF) (z := c n) ⟨by grind, by grind⟩ b2.1 b2.2 z
  have m3 := near_mul (x := c (N + N)) (y := 0) (d := epsF) (z := c n) ⟨by grind, by grind⟩ b2.1 b2.2 z
  have m4 := near_mul (x := s (N + N)) (y := 1) (d := epsF) (z := s n) ⟨by grind, by grind⟩ b1.1 b1.2 z
  unfold near at *
  rw [e1, e2]
  clear hN e1 e2
  generalize s n = x at *
  generalize c n = y at *
  generalize s (N + N) = u at *
  generalize c (N + N) = v at *
  refine ⟨⟨?_, ?_⟩, ?_, ?_⟩ <;> grind
/-- Half a turn further. -/
theorem turn_hF {N : Nat} (hN : N = 64800000) (n : Nat) : near (s (n + (N + N) + (N + N))) (-s n) (4 * epsF) ∧ near (c (n + (N + N) + (N + N))) (-c n) (4 * epsF) := by
  obtain ⟨a1, a2⟩ := turn_qF hN n
  obtain ⟨b1, b2⟩ := turn_qF hN (n + (N + N))
  have e : 2 * epsF + 2 * epsF = 4 * epsF := by grind
  constructor
  · rw [← e]; exact near_trans b1 a2
  · rw [← e]; exact near_trans b2 (near_neg a1)
/-- What lacks to a quarter. -/
theorem lack_qF {N : Nat} (hN : N = 64800000) {m k : Nat} (h : m + k = N + N) : near (s m) (c k) (2 * epsF) ∧ near (c m) (s k) (2 * epsF) := by
  obtain ⟨a1, a2, a3⟩ := quarterF hN
  obtain ⟨e1, e2⟩ := @lack m k
  rw [h] at e1 e2
  have b1 := s_bd k
  have b2 := c_bd k
  have b3 := s_bd (N + N)
  have z := epsF0
  have m1 := near_mul (x := c (N + N)) (y := 0) (d := epsF) (z := s k) ⟨by grind, by grind⟩ b1.1 b1.2 z
  have m2 := near_mul (x := s (N + N)) (y := 1) (d := epsF) (z := c k) ⟨by grind, by grind⟩ b2.1 b2.2 z
  have m3 := near_mul (x := c (N + N)) (y := 0) (d := epsF) (z := c k) ⟨by grind, by grind⟩ b2.1 b2.2 z
  have m4 := near_mul (x := s (N + N)) (y := 1) (d := epsF) (z := s k) ⟨by grind, by grind⟩ b1.1 b1.2 z
  unfold near at *
  rw [e1, e2]
  clear hN e1 e2 h
  generalize s k = x at *
  generalize c k = y at *
  generalize s (N + N) = u at *
  generalize c (N + N) = v at *
  refine ⟨⟨?_, ?_⟩, ?_, ?_⟩ <;> grind
/-- What lacks to half a turn. -/
theorem lack_hF {N : Nat} (hN : N = 64800000) {m k : Nat} (h : m + k = N + N + (N + N)) : near (s m) (s k) (8 * epsF) ∧ near (c m) (-c k) (8 * epsF) := by
  obtain ⟨a1, a2⟩ := turn_hF hN 0
  rw [Nat.zero_add, TS.s0] at a1
  rw [Nat.zero_add, TS.c0] at a2
  obtain ⟨e1, e2⟩ := @lack m k
  rw [h] at e1 e2
  have b1 := s_bd k
  have b2 := c_bd k
  have z := epsF0
  have m1 := near_mul (z := s k) a1 b1.1 b1.2 (by grind)
  have m2 := near_mul (z := s k) a2 b1.1 b1.2 (by grind)
  have m3 := near_mul (z := c k) a1 b2.1 b2.2 (by grind)
  have m4 := near_mul (z := c k) a2 b2.1 b2.2 (by grind)
  unfold near at *
  rw [e1, e2]
  clear hN e1 e2 h
  generalize s k = x at *
  generalize c k = y at *
  generalize s (N + N + (N + N)) = u at *
  generalize c (N + N + (N + N)) = v at *
  refine ⟨⟨?_, ?_⟩, ?_, ?_⟩ <;> grind
/-! ### rows a little apart -/
def tinyF : Rat := 3 / 1000000000000000
theorem s_geF (n : Nat) (h : xx n ≤ 1) : psin 7 (xx n) - tinyF ≤ s n := by
  have b := TS.b15 n h
  have d := (ev_dist (xx_nn n) h TS.B15 (0 :: lst 7 1 2) 0).2
  have k : dist TS.B15 (0 :: lst 7 1 2) ≤ tinyF := by decide +kernel
  have e : ev 0 (0 :: lst 7 1 2) (xx n) = psin 7 (xx n) := by simp only [ev, psin]; grind
  rw [e] at d
  grind
theorem s_leF (n : Nat) (h : xx n ≤ 1) : s n ≤ psin 8 (xx n) + tinyF := by
  have b := TS.b17 n h
  have d := (ev_dist (xx_nn n) h TS.B17 (0 :: lst 8 1 2) 0).1
  have k : dist TS.B17 (0 :: lst 8 1 2) ≤ tinyF := by decide +kernel
  have e : ev 0 (0 :: lst 8 1 2) (xx n) = psin 8 (xx n) := by simp only [ev, psin]; grind
  rw [e] at d
  grind
theorem c_geF (n : Nat) (h : xx n ≤ 1) : pcos 7 (xx n) - tinyF ≤ c n := by
  have b := TS.a14 n h
  have d := (ev_dist (xx_nn n) h TS.A14 (lst 7 1 1) 0).2
  have k : dist TS.A14 (lst 7 1 1) ≤ tinyF := by decide +kernel
  unfold pcos
  grind
theorem c_leF (n : Nat) (h : xx n ≤ 1) : c n ≤ pcos 8 (xx n) + tinyF := by
  have b := TS.a16 n h
  have d := (ev_dist (xx_nn n) h TS.A16 (lst 8 1 1) 0).1
  have k : dist TS.A16 (lst 8 1 1) ≤ tinyF := by decide +kernel
  unfold pcos
  grind
/-- The sine's row grows at least so fast. -/
theorem psin7_fast {a b : Rat} (h0 : 0 ≤ a) (h : a ≤ b) (h1 : b ≤ 1) : psin 7 a + 4 / 10 * (b - a) ≤ psin 7 b := by
  have g := (ev_grow h0 h h1 (lst 7 1 2).tail 2).2
  have k : slope 2 (lst 7 1 2).tail ≤ 6 / 10 := by decide +kernel
  have m := mul_le k (x := b - a) (by grind)
  have e : ∀ y, psin 7 y = y + ev 2 (lst 7 1 2).tail y := fun y => by
    show (1 : Rat) * y ^ 1 + ev 2 (lst 7 1 2).tail y = _
    rw [Rat.pow_succ, Rat.pow_zero]
    grind
  rw [e, e]
  grind
theorem psin8_fast {a b : Rat} (h0 : 0 ≤ a) (h : a ≤ b) (h1 : b ≤ 1) : psin 8 a + 4 / 10 * (b - a) ≤ psin 8 b := by
  have g := (ev_grow h0 h h1 (lst 8 1 2).tail 2).2
  have k : slope 2 (lst 8 1 2).tail ≤ 6 / 10 := by decide +kernel
  have m := mul_le k (x := b - a) (by grind)
  have e : ∀ y, psin 8 y = y + ev 2 (lst 8 1 2).tail y := fun y => by
    show (1 : Rat) * y ^ 1 + ev 2 (lst 8 1 2).tail y = _
    rw [Rat.pow_succ, Rat.pow_zero]
    grind
  rw [e, e]
  grind
theorem pcos_fast (J : Nat) (k : slope 2 (tail2 J 1) ≤ 1 / 10) {a b : Rat} (h0 : 0 ≤ a) (h : a ≤ b) (h1 : b ≤ 1) : pcos (J + 2) b + 4 / 10 * (b * b - a * a) ≤ pcos (J + 2) a := by
  rw [pcos_al, pcos_al, lr_two J, lr_two J]
  have hs := sq_mono h0 h
  have hb : b * b ≤ 1 := by have := sq_mono (show 0 ≤ b by grind) h1; grind
  have g := (ev_grow (sq_nonneg a) hs hb (tail2 J 1) 2).1
  have m := mul_le k (x := b * b - a * a) (by grind)
  have e : (((1 * (1 + 1) : Int) : Rat))⁻¹ = 1 / 2 := by decide +kernel
  rw [e]
  generalize ev 2 (tail2 J 1) (a * a) = u at *
  generalize ev 2 (tail2 J 1) (b * b) = v at *
  generalize slope 2 (tail2 J 1) = w at *
  grind
theorem pcos7_fast {a b : Rat} (h0 : 0 ≤ a) (h : a ≤ b) (h1 : b ≤ 1) : pcos 7 b + 4 / 10 * (b * b - a * a) ≤ pcos 7 a := pcos_fast 5 (by decide +kernel) h0 h h1
theorem pcos8_fast {a b : Rat} (h0 : 0 ≤ a) (h : a ≤ b) (h1 : b ≤ 1) : pcos 8 b + 4 / 10 * (b * b - a * a) ≤ pcos 8 a := pcos_fast 6 (by decide +kernel) h0 h h1
/-- Arcs are rounded well away from the true ones. -/
theorem arc_far {h : Int} (h0 : 0 ≤ h) : un (aL h) + (h : Rat) * (1 / 100000000000000000) ≤ xx (2 * h.toNat) ∧ xx (2 * h.toNat) + (h : Rat) * (1 / 100000000000000000) ≤ un (aH h) ∧ (h : Rat) * (24 / 1000000000) ≤ xx (2 * h.toNat) ∧ xx (2 * h.toNat) ≤ (h : Rat) * (25 / 1000000000) := by
  obtain ⟨a1, _⟩ := down_bd (h * 785398163) (m := 32400000) (by decide)
  obtain ⟨b1, _⟩ := up_bd (h * 785398164) (m := 32400000) (by decide)
  rw [cast_mul] at a1 b1
  have e : ((2 * h.toNat : Nat) : Rat) = 2 * (h : Rat) := by
    have : ((h.toNat : Nat) : Int) = h := Int.toNat_of_nonneg h0
    have e2 : ((h.toNat : Nat) : Rat) = (h : Rat) := by
      rw [← Rat.intCast_natCast, this]
    push_cast
    rw [e2]
  have hh := cast_ge h0
  have hh : (0 : Rat) ≤ (h : Rat) := by simpa using hh
  have k1 : (785398163 : Rat) + 1000000000 * 32400000 * (1 / 100000000000000000) ≤ q * 2 * 1000000000 * 32400000 := by decide +kernel
  have k2 : q * 2 * 1000000000 * 32400000 + 1000000000 * 32400000 * (1 / 100000000000000000) ≤ (785398164 : Rat) := by decide +kernel
  have k3 : (24 / 1000000000 : Rat) ≤ q * 2 := by decide +kernel
  have k4 : q * 2 ≤ (25 / 1000000000 : Rat) := by decide +kernel
  have g1 := mul_le k1 (x := (h : Rat)) hh
  have g2 := mul_le k2 (x := (h : Rat)) hh
  have g3 := mul_le k3 (x := (h : Rat)) hh
  have g4 := mul_le k4 (x := (h : Rat)) hh
  unfold xx
  rw [e]
  change (aL h : Rat) * ((32400000 : Int) : Rat) ≤ (h : Rat) * ((785398163 : Int) : Rat) at a1
  change (h : Rat) * ((785398164 : Int) : Rat) ≤ (aH h : Rat) * ((32400000 : Int) : Rat) at b1
  have c1 : ((32400000 : Int) : Rat) = 32400000 := rfl
  have c2 : ((785398163 : Int) : Rat) = 785398163 := rfl
  have c3 : ((785398164 : Int) : Rat) = 785398164 := rfl
  rw [c1, c2] at a1
  rw [c1, c3] at b1
  have u1 := un_mul (aL h)
  have u2 := un_mul (aH h)
  generalize (aL h : Rat) = u at *
  generalize (aH h : Rat) = v at *
  generalize un (aL h) = y at *
  generalize un (aH h) = z at *
  generalize (h : Rat) = w at *
  refine ⟨?_, ?_, ?_, ?_⟩
  · refine le_of_mul (m := 1000000000 * 32400000) (by decide +kernel) ?_
    grind
  · refine le_of_mul (m := 1000000000 * 32400000) (by decide +kernel) ?_
    grind
  · grind
  · grind
end SI
end Go.Proofs.Ytfdkpcejjcifgal
