/-
  The spans of all sines, and the true sine in them, nearly. No Go text in sight.
-/
import Derived.Test.YtfdkpcejjcifgalSineEighth
namespace Go.Proofs.Ytfdkpcejjcifgal
set_option linter.unusedVariables false
namespace SI
open TS (mul_le sq_nonneg ev neg ab ab_bd q c s xx)
/-! ### an eighth, a quarter, half, and a whole turn -/
theorem eighth {N : Nat} (hN : N = 64800000) : 70710678118634 / 100000000000000 ≤ s N ∧ s N ≤ 70710678118674 / 100000000000000 ∧ 70710678118634 / 100000000000000 ≤ c N ∧ c N ≤ 70710678118674 / 100000000000000 := by
  have xq : xx N ≤ 1 := by subst hN; decide +kernel
  have h1 := s_ge N xq
  have h2 := s_le N xq
  have h3 := c_ge N xq
  have h4 := c_le N xq
  have k1 : (70710678118634 / 100000000000000 : Rat) ≤ psin 7 (xx N) - tiny := by subst hN; decide +kernel
  have k2 : psin 8 (xx N) + tiny ≤ (70710678118674 / 100000000000000 : Rat) := by subst hN; decide +kernel
  have k3 : (70710678118634 / 100000000000000 : Rat) ≤ pcos 7 (xx N) - tiny := by subst hN; decide +kernel
  have k4 : pcos 8 (xx N) + tiny ≤ (70710678118674 / 100000000000000 : Rat) := by subst hN; decide +kernel
  clear hN
  refine ⟨?_, ?_, ?_, ?_⟩ <;> grind
/-- A little. -/
def eps : Rat := 1 / 1000000000000
theorem eps0 : 0 ≤ eps := by decide +kernel
theorem abs_le_of_sq {x y : Rat} (hy : 0 ≤ y) (h : x * x ≤ y * y) : x ≤ y ∧ -y ≤ x := by
  constructor
  · rcases Rat.le_total (a := x) (b := y) with h1 | h1
    · exact h1
    · have := sq_mono hy h1
      have e : x * x = y * y := by grind
      have e2 : (x - y) * (x + y) = 0 := by grind
      rcases Rat.mul_eq_zero.1 e2 with h3 | h3 <;> grind
  · rcases Rat.le_total (a := -y) (b := x) with h1 | h1
    · exact h1
    · have := sq_mono hy (show y ≤ -x by grind)
      have e : x * x = y * y := by grind
      have e2 : (x - y) * (x + y) = 0 := by grind
      rcases Rat.mul_eq_zero.1 e2 with h3 | h3 <;> grind
theorem s_bd (n : Nat) : s n ≤ 1 ∧ -1 ≤ s n := by
  have h := TS.len n
  have h2 := sq_nonneg (c n)
  have := abs_le_of_sq (x := s n) (y := 1) (by decide) (by grind)
  exact ⟨this.1, by grind⟩
theorem c_bd (n : Nat) : c n ≤ 1 ∧ -1 ≤ c n := by
  have h := TS.len n
  have h2 := sq_nonneg (s n)
  have := abs_le_of_sq (x := c n) (y := 1) (by decide) (by grind)
  exact ⟨this.1, by grind⟩
theorem quarter {N : Nat} (hN : N = 64800000) : 1 - eps ≤ s (N + N) ∧ -eps ≤ c (N + N) ∧ c (N + N) ≤ eps := by
  obtain ⟨a1, a2, a3, a4⟩ := eighth hN
  obtain ⟨e1, e2⟩ := TS.add N N
  rw [e1, e2]
  clear hN e1 e2
  generalize s N = u at *
  generalize c N = v at *
  have k0 : (0 : Rat) ≤ 70710678118634 / 100000000000000 := by decide +kernel
  have g1 := mul_le a1 (x := v) (by grind)
  have g2 := mul_le a3 (x := (70710678118634 / 100000000000000 : Rat)) k0
  have f1 := sq_mono k0 a1
  have f2 := sq_mono (show (0 : Rat) ≤ u by grind) a2
  have f3 := sq_mono k0 a3
  have f4 := sq_mono (show (0 : Rat) ≤ v by grind) a4
  unfold eps
  refine ⟨?_, ?_, ?_⟩ <;> grind
/-- Nearly the same. -/
def near (x y d : Rat) : Prop := x ≤ y + d ∧ y ≤ x + d
theorem near_mul {x y d z : Rat} (h : near x y d) (h1 : z ≤ 1) (h2 : -1 ≤ z) (d0 : 0 ≤ d) : near (x * z) (y * z) d := by
  obtain ⟨a, b⟩ := h
  unfold near
  rcases Rat.le_total (a := 0) (b := z) with hz | hz
  · have g1 := mul_le a hz
    have g2 := mul_le b hz
    have g3 := mul_le h1 d0
    constructor <;> grind
  · have g1 := mul_le a (x := -z) (by grind)
    have g2 := mul_le b (x := -z) (by grind)
    have g3 := mul_le (show -z ≤ 1 by grind) d0
    constructor <;> grind
/-- A quarter further. -/
theorem turn_q {N : Nat} (hN : N = 64800000) (n : Nat) : near (s (n + (N + N))) (c n) (2 * eps) ∧ near (c (n + (N + N))) (-s n) (2 * eps) := by
  obtain ⟨a1, a2, a3⟩ := quarter hN
  obtain ⟨e1, e2⟩ := TS.add n (N + N)
  have b1 := s_bd n
  have b2 := c_bd n
  have b3 := s_bd (N + N)
  have z := eps0
  have m1 := near_mul (x := c (N + N)) (y := 0) (d := eps) (z := s n) ⟨by grind, by grind⟩ b1.1 b1.2 z
  have m2 := near_mul (x := s (N + N)) (y := 1) (d := eps) (z := c n) ⟨by grind, by grind⟩ b2.1 b2.2 z
  have m3 := near_mul (x := c (N + N)) (y := 0) (d := eps) (z := c n) ⟨by grind, by grind⟩ b2.1 b2.2 z
  have m4 := near_mul (x := s (N + N)) (y := 1) (d := eps) (z := s n) ⟨by grind, by grind⟩ b1.1 b1.2 z
  unfold near at *
  rw [e1, e2]
  clear hN e1 e2
  generalize s n = x at *
  generalize c n = y at *
  generalize s (N + N) = u at *
  generalize c (N + N) = v at *
  refine ⟨⟨?_, ?_⟩, ?_, ?_⟩ <;> grind
theorem near_trans {x y z d e : Rat} (h : near x y d) (g : near y z e) : near x z (d + e) := by
  unfold near at *
  constructor <;> grind
theorem near_neg {x y d : Rat} (h : near x y d) : near (-x) (-y) d := by
  unfold near at *
  constructor <;> grind
/-- Half a turn further. -/
theorem turn_h {N : Nat} (hN : N = 64800000) (n : Nat) : near (s (n + (N + N) + (N + N))) (-s n) (4 * eps) ∧ near (c (n + (N + N) + (N + N))) (-c n) (4 * eps) := by
  obtain ⟨a1, a2⟩ := turn_q hN n
  obtain ⟨b1, b2⟩ := turn_q hN (n + (N + N))
  have e : 2 * eps + 2 * eps = 4 * eps := by grind
  constructor
  · rw [← e]; exact near_trans b1 a2
  · rw [← e]; exact near_trans b2 (near_neg a1)
/-- A whole turn further. -/
theorem turn_t {N : Nat} (hN : N = 64800000) (n : Nat) : near (s (n + (N + N) + (N + N) + (N + N) + (N + N))) (s n) (8 * eps) ∧ near (c (n + (N + N) + (N + N) + (N + N) + (N + N))) (c n) (8 * eps) := by
  obtain ⟨a1, a2⟩ := turn_h hN n
  obtain ⟨b1, b2⟩ := turn_h hN (n + (N + N) + (N + N))
  have e : 4 * eps + 4 * eps = 8 * eps := by grind
  constructor
  · rw [← e]
    have := near_trans b1 (near_neg a1)
    rwa [Rat.neg_neg] at this
  · rw [← e]
    have := near_trans b2 (near_neg a2)
    rwa [Rat.neg_neg] at this
/-- What lacks. -/
theorem lack {m k : Nat} : s m = s (m + k) * c k - c (m + k) * s k ∧ c m = c (m + k) * c k + s (m + k) * s k := by
  obtain ⟨e1, e2⟩ := TS.add m k
  have l := TS.len k
  rw [e1, e2]
  constructor <;> grind
/-- What lacks to a quarter. -/
theorem lack_q {N : Nat} (hN : N = 64800000) {m k : Nat} (h : m + k = N + N) : near (s m) (c k) (2 * eps) ∧ near (c m) (s k) (2 * eps) := by
  obtain ⟨a1, a2, a3⟩ := quarter hN
  obtain ⟨e1, e2⟩ := @lack m k
  rw [h] at e1 e2
  have b1 := s_bd k
  have b2 := c_bd k
  have b3 := s_bd (N + N)
  have z := eps0
  have m1 := near_mul (x := c (N + N)) (y := 0) (d := eps) (z := s k) ⟨by grind, by grind⟩ b1.1 b1.2 z
  have m2 := near_mul (x := s (N + N)) (y := 1) (d := eps) (z := c k) ⟨by grind, by grind⟩ b2.1 b2.2 z
  have m3 := near_mul (x := c (N + N)) (y := 0) (d := eps) (z := c k) ⟨by grind, by grind⟩ b2.1 b2.2 z
  have m4 := near_mul (x := s (N + N)) (y := 1) (d := eps) (z := s k) ⟨by grind, by grind⟩ b1.1 b1.2 z
  unfold near at *
  rw [e1, e2]
  clear hN e1 e2 h
  generalize s k = x at *
  generalize c k = y at *
  generalize s (N + N) = u at *
  generalize c (N + N) = v at *
  refine ⟨⟨?_, ?_⟩, ?_, ?_⟩ <;> grind
/-- What lacks to half a turn. -/
theorem lack_h {N : Nat} (hN : N = 64800000) {m k : Nat} (h : m + k = N + N + (N + N)) : near (s m) (s k) (8 * eps) ∧ near (c m) (-c k) (8 * eps) := by
  obtain ⟨a1, a2⟩ := turn_h hN 0
  rw [Nat.zero_add, TS.s0] at a1
  rw [Nat.zero_add, TS.c0] at a2
  obtain ⟨e1, e2⟩ := @lack m k
  rw [h] at e1 e2
  have b1 := s_bd k
  have b2 := c_bd k
  have z := eps0
  have m1 := near_mul (z := s k) a1 b1.1 b1.2 (by grind)
  have m2 := near_mul (z := s k) a2 b1.1 b1.2 (by grind)
  have m3 := near_mul (z := c k) a1 b2.1 b2.2 (by grind)
  have m4 := near_mul (z := c k) a2 b2.1 b2.2 (by grind)
  unfold near at *
  rw [e1, e2]
  clear hN e1 e2 h
  generalize s k = x at *
  generalize c k = y at *
  generalize s (N + N + (N + N)) = u at *
  generalize c (N + N + (N + N)) = v at *
  refine ⟨⟨?_, ?_⟩, ?_, ?_⟩ <;> grind
/-! ### the spans of all sines -/
def quL (h : Int) : Int := if h = 0 then 0 else if h = 21600000 then 500000000 else if h = 64800000 then 1000000000 else if h ≤ 32400000 then smL h else nrL (64800000 - h)
def quH (h : Int) : Int := if h = 0 then 0 else if h = 21600000 then 500000000 else if h = 64800000 then 1000000000 else if h ≤ 32400000 then smH h else nrH (64800000 - h)
def haL (h : Int) : Int := if 64800000 < h then quL (129600000 - h) else quL h
def haH (h : Int) : Int := if 64800000 < h then quH (129600000 - h) else quH h
/-- The span of the sine of so many halves of a part. -/
def siL (h : Int) : Int := if 129600000 ≤ h % 259200000 then -haH (h % 259200000 - 129600000) else haL (h % 259200000)
def siH (h : Int) : Int := if 129600000 ≤ h % 259200000 then -haL (h % 259200000 - 129600000) else haH (h % 259200000)
/-- The true sine and cosine of so many halves of a part. -/
def S (h : Int) : Rat := s (2 * (h % 259200000).toNat)
def C (h : Int) : Rat := c (2 * (h % 259200000).toNat)
/-- A number is nearly in a span. -/
structure In (L H : Int) (v : Rat) (d : Rat) : Prop where
  lo : (L : Rat) ≤ 1000000000 * v + d
  hi : 1000000000 * v ≤ (H : Rat) + d
structure Fit (L H : Int) : Prop where
  a : -1000000000 ≤ L
  b : L ≤ H
  c : H ≤ 1000000000
  d : H ≤ L + 64
theorem half_pt {n : Nat} (hn : n = 43200000) : near (s n) (1 / 2) (1 / 1000000000000) := by
  have xq : xx n ≤ 1 := by subst hn; decide +kernel
  have h1 := s_ge n xq
  have h2 := s_le n xq
  have k1 : (1 / 2 - 1 / 1000000000000 : Rat) ≤ psin 7 (xx n) - tiny := by subst hn; decide +kernel
  have k2 : psin 8 (xx n) + tiny ≤ (1 / 2 + 1 / 1000000000000 : Rat) := by subst hn; decide +kernel
  clear hn
  unfold near
  constructor <;> grind
theorem qu_enc {h : Int} (h0 : 0 ≤ h) (h1 : h ≤ 64800000) : In (quL h) (quH h) (s (2 * h.toNat)) (1 / 200) ∧ Fit (quL h) (quH h) ∧ 0 ≤ quL h := by
  obtain ⟨N, hN⟩ : ∃ N : Nat, N = 64800000 := ⟨_, rfl⟩
  have c0 : ((0 : Int) : Rat) = 0 := rfl
  have c5 : ((500000000 : Int) : Rat) = 500000000 := rfl
  have c9 : ((1000000000 : Int) : Rat) = 1000000000 := rfl
  unfold quL quH
  by_cases z0 : h = 0
  · rw [if_pos z0, if_pos z0]
    have e : 2 * h.toNat = 0 := by omega
    rw [e, TS.s0]
    exact ⟨⟨by rw [c0]; grind, by rw [c0]; grind⟩, ⟨by decide, by decide, by decide, by decide⟩, by decide⟩
  · rw [if_neg z0, if_neg z0]
    by_cases z1 : h = 21600000
    · rw [if_pos z1, if_pos z1]
      obtain ⟨p1, p2⟩ := half_pt (n := 2 * h.toNat) (by omega)
      generalize s (2 * h.toNat) = v at *
      exact ⟨⟨by rw [c5]; grind, by rw [c5]; grind⟩, ⟨by decide, by decide, by decide, by decide⟩, by decide⟩
    · rw [if_neg z1, if_neg z1]
      by_cases z2 : h = 64800000
      · rw [if_pos z2, if_pos z2]
        obtain ⟨a1, _, _⟩ := quarter hN
        have e : 2 * h.toNat = N + N := by omega
        rw [e]
        have b := (s_bd (N + N)).1
        unfold eps at a1
        generalize s (N + N) = v at *
        exact ⟨⟨by rw [c9]; grind, by rw [c9]; grind⟩, ⟨by decide, by decide, by decide, by decide⟩, by decide⟩
      · rw [if_neg z2, if_neg z2]
        by_cases z3 : h ≤ 32400000
        · rw [if_pos z3, if_pos z3]
          obtain ⟨⟨l, u, le, wd⟩, n0, n9⟩ := small_enc h0 z3
          generalize s (2 * h.toNat) = v at *
          exact ⟨⟨by grind, by grind⟩, ⟨by omega, le, by omega, wd⟩, n0⟩
        · rw [if_neg z3, if_neg z3]
          obtain ⟨⟨l, u, le, wd⟩, n0, n9⟩ := near_enc (h := 64800000 - h) (by omega) (by omega)
          obtain ⟨⟨q1, q2⟩, _⟩ := lack_q hN (m := 2 * h.toNat) (k := 2 * (64800000 - h).toNat) (by omega)
          unfold eps at q1 q2
          generalize s (2 * h.toNat) = v at *
          generalize c (2 * (64800000 - h).toNat) = w at *
          exact ⟨⟨by grind, by grind⟩, ⟨by omega, le, n9, wd⟩, n0⟩
theorem ha_enc {h : Int} (h0 : 0 ≤ h) (h1 : h ≤ 129600000) : In (haL h) (haH h) (s (2 * h.toNat)) (1 / 50) ∧ Fit (haL h) (haH h) ∧ 0 ≤ haL h := by
  obtain ⟨N, hN⟩ : ∃ N : Nat, N = 64800000 := ⟨_, rfl⟩
  unfold haL haH
  by_cases z : 64800000 < h
  · rw [if_pos z, if_pos z]
    obtain ⟨⟨l, u⟩, F, n0⟩ := qu_enc (h := 129600000 - h) (by omega) (by omega)
    obtain ⟨⟨q1, q2⟩, _⟩ := lack_h hN (m := 2 * h.toNat) (k := 2 * (129600000 - h).toNat) (by omega)
    unfold eps at q1 q2
    generalize s (2 * h.toNat) = v at *
    generalize s (2 * (129600000 - h).toNat) = w at *
    exact ⟨⟨by grind, by grind⟩, F, n0⟩
  · rw [if_neg z, if_neg z]
    obtain ⟨⟨l, u⟩, F, n0⟩ := qu_enc h0 (by omega)
    generalize s (2 * h.toNat) = v at *
    exact ⟨⟨by grind, by grind⟩, F, n0⟩
/-- The span of a sine has it, nearly. -/
theorem si_enc (h : Int) : In (siL h) (siH h) (S h) (1 / 25) ∧ Fit (siL h) (siH h) := by
  obtain ⟨N, hN⟩ : ∃ N : Nat, N = 64800000 := ⟨_, rfl⟩
  have b0 : 0 ≤ h % 259200000 := Int.emod_nonneg _ (by decide)
  have b1 : h % 259200000 < 259200000 := Int.emod_lt_of_pos _ (by decide)
  unfold siL siH S
  generalize h % 259200000 = g at *
  by_cases z : 129600000 ≤ g
  · rw [if_pos z, if_pos z]
    obtain ⟨⟨l, u⟩, ⟨fa, fb, fc, fd⟩, n0⟩ := ha_enc (h := g - 129600000) (by omega) (by omega)
    obtain ⟨⟨q1, q2⟩, _⟩ := turn_h hN (2 * (g - 129600000).toNat)
    have e : 2 * (g - 129600000).toNat + (N + N) + (N + N) = 2 * g.toNat := by omega
    rw [e] at q1 q2
    unfold eps at q1 q2
    have cn : ∀ a : Int, ((-a : Int) : Rat) = -(a : Rat) := fun a => by push_cast; rfl
    generalize s (2 * g.toNat) = v at *
    generalize s (2 * (g - 129600000).toNat) = w at *
    exact ⟨⟨by rw [cn]; grind, by rw [cn]; grind⟩, ⟨by omega, by omega, by omega, by omega⟩⟩
  · rw [if_neg z, if_neg z]
    obtain ⟨⟨l, u⟩, F, n0⟩ := ha_enc b0 (by omega)
    generalize s (2 * g.toNat) = v at *
    exact ⟨⟨by grind, by grind⟩, F⟩
end SI
end Go.Proofs.Ytfdkpcejjcifgal
