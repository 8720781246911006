/-
  Of a greater angle the upper end of the sine is above the lower end of the lesser one's: strictly. No Go text in sight.
-/
import Derived.Test.YtfdkpcejjcifgalSineLaws
namespace Go.Proofs.Ytfdkpcejjcifgal
namespace SI
set_option linter.unusedVariables false
open TS (mul_le sq_nonneg ev neg ab ab_bd q c s xx)
/-! ### the row of a cosine near a quarter -/
theorem row_stop {f : Nat} {low high d u x n : Int} {less : Bool} (hu : 0 < u) (hn : n < 40) (h1 : NM.up (tU u (tU x x)) (n * (n + 1)) = 1) (h2 : NM.down (tD d (tD x x)) (n * (n + 1)) = 0) : row (f + 1) low high d u less x n = (low - 1, high + 1) := by
  simp only [row]
  rw [if_pos ⟨hu, hn⟩, if_pos ⟨h1, h2⟩]
theorem row_on {f : Nat} {low high d u x n : Int} (hu : 0 < u) (hn : n < 40) (h : ¬ (NM.up (tU u (tU x x)) (n * (n + 1)) = 1 ∧ NM.down (tD d (tD x x)) (n * (n + 1)) = 0)) :
    row (f + 1) low high d u true x n = row f (low - NM.up (tU u (tU x x)) (n * (n + 1))) (high - NM.down (tD d (tD x x)) (n * (n + 1))) (NM.down (tD d (tD x x)) (n * (n + 1))) (NM.up (tU u (tU x x)) (n * (n + 1))) false x (n + 2) := by
  simp only [row]
  rw [if_pos ⟨hu, hn⟩, if_neg h]
theorem tD9 (X : Int) : tD 1000000000 X = X := by unfold tD NM.down; omega
theorem tU9 (X : Int) : tU 1000000000 X = X := by unfold tU NM.up; omega
/-- So near the row stops at once. -/
theorem rowC_one {x : Int} (h0 : 1 ≤ x) (h1 : x * x < 2000000000) : rowC x = (999999999, 1000000001) := by
  have p : 1 ≤ x * x := by have := Int.mul_le_mul h0 h0 (by decide) (by omega); omega
  unfold rowC
  rw [row_stop (by decide) (by decide) ?_ ?_]
  · rfl
  · rw [tU9]
    unfold tU NM.up
    generalize x * x = z at *
    omega
  · rw [tD9]
    unfold tD NM.down
    generalize x * x = z at *
    omega
/-- A little further it stops behind one term. -/
theorem rowC_two {x : Int} (h1 : 2000000000 ≤ x * x) (h2 : x * x ≤ 30000000000000) : (rowC x).1 = 1000000000 - NM.up (tU x x) 2 - 1 := by
  unfold rowC
  have t1 : 2 ≤ tU x x ∧ tU x x ≤ 30000 := by unfold tU NM.up; generalize x * x = z at *; omega
  have t2 : 2 ≤ tD x x ∧ tD x x ≤ 30000 := by unfold tD NM.down; generalize x * x = z at *; omega
  have e2 : (1 : Int) * (1 + 1) = 2 := by decide
  have e12 : (1 + 2 : Int) * (1 + 2 + 1) = 12 := by decide
  rw [row_on (by decide) (by decide) ?_]
  · rw [tU9, tD9, e2]
    have u1 : 1 ≤ NM.up (tU x x) 2 ∧ NM.up (tU x x) 2 ≤ 15000 := by unfold NM.up; omega
    have d1 : 1 ≤ NM.down (tD x x) 2 ∧ NM.down (tD x x) 2 ≤ 15000 := by unfold NM.down; omega
    have m1 := Int.mul_le_mul u1.2 t1.2 (by omega) (by decide)
    have m2 : 1 ≤ NM.up (tU x x) 2 * tU x x := by have := Int.mul_le_mul u1.1 t1.1 (by omega) (by omega); omega
    have m3 := Int.mul_le_mul d1.2 t2.2 (by omega) (by decide)
    have m4 : 0 ≤ NM.down (tD x x) 2 * tD x x := Int.mul_nonneg (by omega) (by omega)
    have s1 : NM.up (tU (NM.up (tU x x) 2) (tU x x)) ((1 + 2) * (1 + 2 + 1)) = 1 := by
      rw [e12]
      rw [show tU (NM.up (tU x x) 2) (tU x x) = NM.up (NM.up (tU x x) 2 * tU x x) 1000000000 from rfl]
      generalize NM.up (tU x x) 2 * tU x x = z at *
      unfold NM.up
      omega
    have s2 : NM.down (tD (NM.down (tD x x) 2) (tD x x)) ((1 + 2) * (1 + 2 + 1)) = 0 := by
      rw [e12]
      rw [show tD (NM.down (tD x x) 2) (tD x x) = NM.down (NM.down (tD x x) 2 * tD x x) 1000000000 from rfl]
      generalize NM.down (tD x x) 2 * tD x x = z at *
      unfold NM.down
      omega
    rw [row_stop (by omega) (by decide) s1 s2]
  · rw [tU9, tD9, e2]
    intro hc
    have := hc.2
    unfold NM.down at this
    omega
theorem aH_mono {g k : Int} (h : g ≤ k) : aH g ≤ aH k := by unfold aH NM.up; omega
theorem aL_pos {g : Int} (h : 1 ≤ g) : 1 ≤ aL g := by unfold aL NM.down; omega
theorem sq_int {a b : Int} (h0 : 0 ≤ a) (h : a ≤ b) : a * a ≤ b * b := Int.mul_le_mul h h h0 (by omega)
/-- Near a quarter the upper end is one. -/
theorem near_top {g : Int} (h0 : 1 ≤ g) (h1 : g ≤ 32400000) (h : aH g * aH g < 2000000000) : nrH g = 1000000000 ∧ nrL g = 999999999 := by
  obtain ⟨_, a, _, _⟩ := arc_bd (h := g) (by omega) h1
  have l := aL_pos h0
  have q1 := sq_int (show 0 ≤ aL g by omega) a
  unfold nrH nrL
  rw [rowC_one l (by omega), rowC_one (show 1 ≤ aH g by omega) h]
  exact ⟨by decide, rfl⟩
/-- Else the lower end is lower by one. -/
theorem near_low {g : Int} (h0 : 1 ≤ g) (h1 : g ≤ 200000) (h : 2000000000 ≤ aH g * aH g) : (nrL g : Rat) + 1 ≤ 1000000000 * c (2 * g.toNat) + 1 / 1000 := by
  have b : aH g ≤ 4848137 := by unfold aH NM.up; omega
  have a0 : 0 ≤ aH g := by have := arc_bd (h := g) (by omega) (by omega); omega
  have q1 := sq_int a0 b
  have e := rowC_two h (by omega)
  have ar := arc_of (h := g) (by omega) (by omega)
  obtain ⟨y0, y1, y2, y3, y4⟩ := ar
  have x0 := xx_nn (2 * g.toNat)
  have x1 : xx (2 * g.toNat) ≤ 1 := by grind
  have cg := c_ge _ x1
  have pm := pcos7_mono x0 y2 (by grind)
  have um := un_mul (aH g)
  have us := (un_sq a0 (by omega)).1
  -- the row of the cosine begins with one less half the square
  have pl : 1 - 1 / 2 * (un (aH g) * un (aH g)) ≤ pcos 7 (un (aH g)) := by
    rw [pcos_al]
    have r0 := sq_nonneg (un (aH g))
    have r1 := (un_sq a0 (by omega)).2.2
    have h2 := al_lr (un (aH g) * un (aH g)) 7 1 1
    rw [← show (1 : Rat) * ev 0 (lr 7 1) (un (aH g) * un (aH g)) = ev 0 (lr 7 1) (un (aH g) * un (aH g)) by grind, ← h2]
    have e7 : al (un (aH g) * un (aH g)) 7 1 1 = 1 - al (un (aH g) * un (aH g)) 6 (1 * (un (aH g) * un (aH g)) / (((1 : Int) * (1 + 1) : Int) : Rat)) (1 + 2) := rfl
    rw [e7]
    have c2 : (((1 : Int) * (1 + 1) : Int) : Rat) = 2 := by decide +kernel
    rw [c2]
    have bd := (al_bd r0 (show un (aH g) * un (aH g) ≤ 1 by grind) 6 (1 * (un (aH g) * un (aH g)) / 2) (1 + 2) (by rw [Rat.div_def]; grind) (by decide)).2
    rw [Rat.div_def] at bd ⊢
    have i2 : (2 : Rat)⁻¹ = 1 / 2 := by decide +kernel
    rw [i2] at bd ⊢
    grind
  have tn : (1000000000 : Rat) * tiny ≤ 1 / 1000 := by decide +kernel
  -- the first term, rounded up
  obtain ⟨t1, _⟩ := up_bd (aH g * aH g) (m := 1000000000) (by decide)
  obtain ⟨t2, _⟩ := up_bd (tU (aH g) (aH g)) (m := 2) (by decide)
  rw [cast_mul] at t1
  have c9 : ((1000000000 : Int) : Rat) = 1000000000 := rfl
  have c2 : ((2 : Int) : Rat) = 2 := rfl
  have c1 : ((1 : Int) : Rat) = 1 := rfl
  rw [c9] at t1
  rw [c2] at t2
  change _ ≤ (tU (aH g) (aH g) : Rat) * 1000000000 at t1
  have en : (nrL g : Rat) = 1000000000 - (NM.up (tU (aH g) (aH g)) 2 : Rat) - 1 := by
    rw [show nrL g = 1000000000 - NM.up (tU (aH g) (aH g)) 2 - 1 from e, cast_sub, cast_sub, c9, c1]
  rw [en]
  clear en e q1 b h h0 h1 y0 y1 y2 y3 y4 x0 x1 um
  generalize (NM.up (tU (aH g) (aH g)) 2 : Rat) = U2 at *
  generalize (tU (aH g) (aH g) : Rat) = U1 at *
  generalize un (aH g) * un (aH g) = r at *
  generalize (aH g : Rat) * (aH g : Rat) = z at *
  generalize pcos 7 (un (aH g)) = p1 at *
  generalize pcos 7 (xx (2 * g.toNat)) = p2 at *
  generalize c (2 * g.toNat) = cv at *
  grind
/-! ### a part further -/
theorem s_part {n : Nat} : s (n + 4) = s n + 2 * (c (n + 2) * s 2) := by
  have e1 := (TS.add (n + 2) 2).1
  have e2 := (@lack n 2).1
  have q1 : n + 2 + 2 = n + 4 := by omega
  rw [q1] at e1
  rw [e1, e2]
  grind
theorem s2_low : (24 / 1000000000 : Rat) ≤ s 2 := by decide +kernel
/-- Not near a quarter a cosine is not small. -/
theorem c_not {N : Nat} (hN : N = 64800000) {M : Nat} (h : M + 379998 ≤ N + N) : 45 / 10000 ≤ c M := by
  have xq : ∀ n : Nat, n ≤ N → xx n ≤ 1 := fun n hn => by
    have h1 : xx N ≤ 1 := by subst hN; decide +kernel
    have h2 := TS.cast_le hn
    have h3 := mul_le h2 (x := q) (by have := TS.q_pos; grind)
    unfold xx at *
    grind
  by_cases k : M ≤ N
  · have h1 := c_ge M (xq M k)
    have h2 := pcos7_mono (a := xx M) (b := 1) (xx_nn M) (xq M k) (by grind)
    have h3 : (45 / 10000 : Rat) ≤ pcos 7 1 - tiny := by decide +kernel
    grind
  · obtain ⟨_, g1, g2⟩ := lack_q hN (m := M) (k := N + N - M) (by omega)
    have h1 := s_ge (N + N - M) (xq _ (by omega))
    have x2 : xx 379998 ≤ xx (N + N - M) := by
      have h2 := TS.cast_le (show 379998 ≤ N + N - M by omega)
      have h3 := mul_le h2 (x := q) (by have := TS.q_pos; grind)
      unfold xx
      grind
    have h2 := psin7_mono (a := xx 379998) (b := xx (N + N - M)) (xx_nn _) x2 (xq _ (by omega))
    have h3 : (46 / 10000 : Rat) ≤ psin 7 (xx 379998) - tiny := by decide +kernel
    have h4 : 2 * eps ≤ 1 / 10000 := by decide +kernel
    grind
theorem si_strict0 {a b : Int} (h0 : 0 ≤ a) (h : a < b) (h1 : b ≤ 32400000) : siL (2 * a) < siH (2 * b) := by
  obtain ⟨N, hN⟩ : ∃ N : Nat, N = 64800000 := ⟨_, rfl⟩
  obtain ⟨i1, _⟩ := si_enc (2 * a)
  obtain ⟨i2, _⟩ := si_enc (2 * b)
  have l := i1.lo
  have u := i2.hi
  have ea : 2 * a % 259200000 = 2 * a := by omega
  have eb : 2 * b % 259200000 = 2 * b := by omega
  have c1 : ((1 : Int) : Rat) = 1 := rfl
  by_cases nr : a ≤ 32304999
  · have g := s_grow hN (a := (2 * a).toNat + 2) (b := (2 * b).toNat) (by omega) (by omega)
    have e4 : 2 * ((2 * a).toNat + 2) = 2 * (2 * a).toNat + 4 := by omega
    rw [e4, s_part] at g
    have cn := c_not hN (M := 2 * (2 * a).toNat + 2) (by omega)
    have s2 := s2_low
    have m := mul_le cn (x := s 2) (by grind)
    unfold S at l u
    rw [ea] at l
    rw [eb] at u
    unfold eps at g
    have : siL (2 * a) + 1 ≤ siH (2 * b) := by
      refine le_of_near (e := 95 / 100) ?_ (by grind)
      rw [cast_add, c1]
      clear hN i1 i2 ea eb e4
      generalize c (2 * (2 * a).toNat + 2) * s 2 = w at *
      generalize s (2 * (2 * a).toNat) = x at *
      generalize s (2 * (2 * b).toNat) = y at *
      generalize s 2 = z at *
      grind
    omega
  · -- near a quarter
    have q1 : siL (2 * a) = nrL (64800000 - 2 * a) := by
      unfold siL
      rw [ea, if_neg (by omega)]
      unfold haL
      rw [if_neg (by omega)]
      unfold quL
      rw [if_neg (by omega), if_neg (by omega), if_neg (by omega), if_neg (by omega)]
    rcases Int.lt_or_le (aH (64800000 - 2 * a) * aH (64800000 - 2 * a)) 2000000000 with z | z
    · rw [q1, (near_top (by omega) (by omega) z).2]
      by_cases z2 : b = 32400000
      · subst z2
        have := ex3.2
        have e : (2 : Int) * 32400000 = 64800000 := by decide
        rw [e, this]
        decide
      · have q2 : siH (2 * b) = nrH (64800000 - 2 * b) := by
          unfold siH
          rw [eb, if_neg (by omega)]
          unfold haH
          rw [if_neg (by omega)]
          unfold quH
          rw [if_neg (by omega), if_neg (by omega), if_neg (by omega), if_neg (by omega)]
        have m := aH_mono (show 64800000 - 2 * b ≤ 64800000 - 2 * a by omega)
        have p := arc_bd (h := 64800000 - 2 * b) (by omega) (by omega)
        have sq := sq_int (show 0 ≤ aH (64800000 - 2 * b) by omega) m
        rw [q2, (near_top (by omega) (by omega) (by omega)).1]
        decide
    · have k := near_low (g := 64800000 - 2 * a) (by omega) (by omega) z
      have g := s_grow hN (a := (2 * a).toNat) (b := (2 * b).toNat) (by omega) (by omega)
      obtain ⟨⟨n1, n2⟩, _⟩ := lack_q hN (m := 2 * (2 * a).toNat) (k := 2 * (64800000 - 2 * a).toNat) (by omega)
      unfold S at u
      rw [eb] at u
      rw [q1]
      unfold eps at g n1 n2
      have : nrL (64800000 - 2 * a) + 1 ≤ siH (2 * b) := by
        refine le_of_near (e := 1 / 2) ?_ (by grind)
        rw [cast_add, c1]
        clear hN i1 i2 ea eb q1 z l
        generalize s (2 * (2 * a).toNat) = x at *
        generalize s (2 * (2 * b).toNat) = y at *
        generalize c (2 * (64800000 - 2 * a).toNat) = w at *
        grind
      omega
/-- A greater angle has a greater sine, as far as the ends tell. -/
theorem si_strict {a b : Int} (h0 : -32400000 ≤ a) (h : a < b) (h1 : b ≤ 32400000) : siL (2 * a) < siH (2 * b) := by
  have z0 := ex0
  rcases Int.lt_or_le a 0 with c1 | c1
  · obtain ⟨e1, _⟩ := si_neg (2 * -a)
    have k1 : -(2 * -a) = 2 * a := by omega
    rw [k1] at e1
    rcases Int.lt_or_le b 0 with c2 | c2
    · obtain ⟨_, e2⟩ := si_neg (2 * -b)
      have k2 : -(2 * -b) = 2 * b := by omega
      rw [k2] at e2
      have := si_strict0 (a := -b) (b := -a) (by omega) (by omega) (by omega)
      omega
    · have p := si_strict0 (a := 0) (b := -a) (by omega) (by omega) (by omega)
      have e : (2 : Int) * 0 = 0 := by decide
      rw [e] at p
      by_cases c3 : b = 0
      · subst c3
        rw [e]
        omega
      · have p2 := si_strict0 (a := 0) (b := b) (by omega) (by omega) h1
        rw [e] at p2
        omega
  · exact si_strict0 c1 h h1
end SI
end Go.Proofs.Ytfdkpcejjcifgal
