/-
  The row of a sine or a cosine, as both sides reckon it: where it leads, and how wide it is. No Go text in sight.
-/
import Derived.Test.YtfdkpcejjcifgalNumMath
import Derived.Test.YtfdkpcejjcifgalSineTrue
namespace Go.Proofs.Ytfdkpcejjcifgal
set_option linter.unusedVariables false
namespace SI
open TS (mul_le sq_nonneg)
/-! ### the row, as both sides reckon it -/
def tD (a b : Int) : Int := NM.down (a * b) 1000000000
def tU (a b : Int) : Int := NM.up (a * b) 1000000000
def row : Nat → Int → Int → Int → Int → Bool → Int → Int → Int × Int
  | 0, low, high, _, _, _, _, _ => (low, high)
  | f + 1, low, high, d, u, less, x, n =>
    if 0 < u ∧ n < 40 then
      if NM.up (tU u (tU x x)) (n * (n + 1)) = 1 ∧ NM.down (tD d (tD x x)) (n * (n + 1)) = 0 then (low - 1, high + 1)
      else match less with
        | true => row f (low - NM.up (tU u (tU x x)) (n * (n + 1))) (high - NM.down (tD d (tD x x)) (n * (n + 1))) (NM.down (tD d (tD x x)) (n * (n + 1))) (NM.up (tU u (tU x x)) (n * (n + 1))) false x (n + 2)
        | false => row f (low + NM.down (tD d (tD x x)) (n * (n + 1))) (high + NM.up (tU u (tU x x)) (n * (n + 1))) (NM.down (tD d (tD x x)) (n * (n + 1))) (NM.up (tU u (tU x x)) (n * (n + 1))) true x (n + 2)
    else (low, high)
/-! ### as it truly is -/
def al (r : Rat) : Nat → Rat → Int → Rat
  | 0, T, _ => T
  | J + 1, T, n => T - al r J (T * r / ((n * (n + 1) : Int) : Rat)) (n + 2)
theorem inv_nn {m : Rat} (h : 1 ≤ m) : 0 ≤ m⁻¹ ∧ m⁻¹ * m = 1 ∧ m⁻¹ ≤ 1 := by
  have h1 : m⁻¹ * m = 1 := Rat.inv_mul_cancel _ (by grind)
  have h2 : 0 ≤ m⁻¹ := by
    rcases Rat.le_total (a := 0) (b := m⁻¹) with h2 | h2
    · exact h2
    · have : 0 ≤ (-m⁻¹) * m := Rat.mul_nonneg (by grind) (by grind)
      grind
  refine ⟨h2, h1, ?_⟩
  have := Rat.mul_nonneg h2 (show 0 ≤ m - 1 by grind)
  grind
theorem cast_ge {a b : Int} (h : a ≤ b) : (a : Rat) ≤ (b : Rat) := by exact_mod_cast h
theorem mm_ge {n : Int} (h : 1 ≤ n) : (2 : Rat) ≤ ((n * (n + 1) : Int) : Rat) := by
  have : (2 : Int) ≤ n * (n + 1) := by
    have := Int.mul_le_mul h (show 2 ≤ n + 1 by omega) (by omega) (by omega)
    omega
  have := cast_ge this
  simpa using this
/-- The next term. -/
theorem next_bd {T r : Rat} {n : Int} (hT : 0 ≤ T) (r0 : 0 ≤ r) (r1 : r ≤ 1) (hn : 1 ≤ n) : 0 ≤ T * r / ((n * (n + 1) : Int) : Rat) ∧ T * r / ((n * (n + 1) : Int) : Rat) ≤ T ∧ T * r / ((n * (n + 1) : Int) : Rat) * ((n * (n + 1) : Int) : Rat) = T * r := by
  have m2 := mm_ge hn
  generalize ((n * (n + 1) : Int) : Rat) = m at *
  obtain ⟨i0, i1, i2⟩ := inv_nn (m := m) (by grind)
  have t0 := Rat.mul_nonneg hT r0
  have t1 := mul_le r1 hT
  rw [Rat.div_def]
  refine ⟨Rat.mul_nonneg t0 i0, ?_, by grind⟩
  have := mul_le i2 t0
  grind
theorem al_bd {r : Rat} (r0 : 0 ≤ r) (r1 : r ≤ 1) : ∀ (J : Nat) (T : Rat) (n : Int), 0 ≤ T → 1 ≤ n → 0 ≤ al r J T n ∧ al r J T n ≤ T := by
  intro J
  induction J with
  | zero => intro T n hT _; exact ⟨hT, by simp only [al]; grind⟩
  | succ J ih =>
    intro T n hT hn
    obtain ⟨n0, n1, _⟩ := next_bd hT r0 r1 hn
    have := ih _ (n + 2) n0 (by omega)
    simp only [al]
    grind
theorem down_bd (a : Int) {m : Int} (h : 0 < m) : (NM.down a m : Rat) * (m : Rat) ≤ (a : Rat) ∧ (a : Rat) ≤ (NM.down a m : Rat) * (m : Rat) + (m : Rat) := by
  have e := Int.mul_ediv_add_emod a m
  have h1 := Int.emod_nonneg a (show m ≠ 0 by omega)
  have h2 := Int.emod_lt_of_pos a h
  unfold NM.down
  constructor
  · have : (a / m) * m ≤ a := by rw [Int.mul_comm]; omega
    exact_mod_cast this
  · have : a ≤ (a / m) * m + m := by rw [Int.mul_comm]; omega
    exact_mod_cast this
theorem up_bd (a : Int) {m : Int} (h : 0 < m) : (a : Rat) ≤ (NM.up a m : Rat) * (m : Rat) ∧ (NM.up a m : Rat) * (m : Rat) ≤ (a : Rat) + (m : Rat) := by
  have e := Int.mul_ediv_add_emod (-a) m
  have h1 := Int.emod_nonneg (-a) (show m ≠ 0 by omega)
  have h2 := Int.emod_lt_of_pos (-a) h
  unfold NM.up
  constructor
  · have : a ≤ (-((-a) / m)) * m := by rw [Int.neg_mul, Int.mul_comm]; omega
    exact_mod_cast this
  · have : (-((-a) / m)) * m ≤ a + m := by rw [Int.neg_mul, Int.mul_comm]; omega
    exact_mod_cast this
theorem le_of_mul {a b m : Rat} (hm : 0 < m) (h : a * m ≤ b * m) : a ≤ b := by
  rcases Rat.le_total (a := a) (b := b) with h2 | h2
  · exact h2
  · have := mul_le h2 (x := m) (by grind)
    have e : (a - b) * m = 0 := by grind
    rcases Rat.mul_eq_zero.1 e with h3 | h3
    · grind
    · grind
theorem cast_mul (a b : Int) : ((a * b : Int) : Rat) = (a : Rat) * (b : Rat) := by push_cast; rfl
theorem unitc : ((1000000000 : Int) : Rat) = 1000000000 := rfl
theorem nn_down {a m : Int} (h : 0 ≤ a) (hm : 0 < m) : 0 ≤ NM.down a m := Int.ediv_nonneg h (by omega)
theorem mm_pos {n : Int} (h : 1 ≤ n) : 0 < n * (n + 1) := Int.mul_pos (by omega) (by omega)
theorem dn_step {T r : Rat} {d x n : Int} (x0 : 0 ≤ x) (h0 : 0 ≤ d) (hd : (d : Rat) ≤ T) (hd3 : T ≤ (d : Rat) + 3) (hdu : d ≤ 1000000000) (hr : r * 1000000000000000000 = (x : Rat) * (x : Rat)) (r0 : 0 ≤ r) (r1 : r ≤ 62 / 100) (hn : 1 ≤ n) :
    0 ≤ NM.down (tD d (tD x x)) (n * (n + 1)) ∧ (NM.down (tD d (tD x x)) (n * (n + 1)) : Rat) ≤ T * r / ((n * (n + 1) : Int) : Rat) ∧ T * r / ((n * (n + 1) : Int) : Rat) ≤ (NM.down (tD d (tD x x)) (n * (n + 1)) : Rat) + 3 := by
  have m2 := mm_ge hn
  have mp := mm_pos hn
  have X0 : 0 ≤ tD x x := nn_down (Int.mul_nonneg x0 x0) (by decide)
  have D0 : 0 ≤ tD d (tD x x) := nn_down (Int.mul_nonneg h0 X0) (by decide)
  have dd := cast_ge h0
  have du := cast_ge hdu
  obtain ⟨a1, a2⟩ := down_bd (x * x) (m := 1000000000) (by decide)
  obtain ⟨b1, b2⟩ := down_bd (d * tD x x) (m := 1000000000) (by decide)
  obtain ⟨c1, c2⟩ := down_bd (tD d (tD x x)) mp
  have X0' := cast_ge X0
  rw [cast_mul, unitc] at a1 a2 b1 b2
  change (tD x x : Rat) * 1000000000 ≤ _ at a1
  change _ ≤ (tD x x : Rat) * 1000000000 + _ at a2
  change (tD d (tD x x) : Rat) * 1000000000 ≤ _ at b1
  change _ ≤ (tD d (tD x x) : Rat) * 1000000000 + _ at b2
  refine ⟨nn_down D0 mp, ?_⟩
  obtain ⟨_, _, hT⟩ := next_bd (T := T) (r := r) (n := n) (by grind) r0 (by grind) hn
  generalize T * r / ((n * (n + 1) : Int) : Rat) = T' at *
  generalize (NM.down (tD d (tD x x)) (n * (n + 1)) : Rat) = D2 at *
  generalize ((n * (n + 1) : Int) : Rat) = m at *
  generalize (tD d (tD x x) : Rat) = D1 at *
  generalize (tD x x : Rat) = X at *
  generalize (d : Rat) = dr at *
  have e1 : X ≤ r * 1000000000 := by grind
  have e2 : r * 1000000000 ≤ X + 1 := by grind
  have f1 := mul_le e1 (x := dr) (by grind)
  have f2 := mul_le e2 (x := dr) (by grind)
  have g1 := mul_le hd r0
  have g2 := mul_le hd3 r0
  constructor
  · refine le_of_mul (m := m) (by grind) ?_
    grind
  · refine le_of_mul (m := m) (by grind) ?_
    grind
theorem up_step {T r : Rat} {u x n : Int} (h0 : 0 ≤ u) (T0 : 0 ≤ T) (hu : T ≤ (u : Rat)) (hu3 : (u : Rat) ≤ T + 3) (huu : u ≤ 1000000000) (hr : r * 1000000000000000000 = (x : Rat) * (x : Rat)) (r0 : 0 ≤ r) (r1 : r ≤ 62 / 100) (hn : 1 ≤ n) :
    T * r / ((n * (n + 1) : Int) : Rat) ≤ (NM.up (tU u (tU x x)) (n * (n + 1)) : Rat) ∧ (NM.up (tU u (tU x x)) (n * (n + 1)) : Rat) ≤ T * r / ((n * (n + 1) : Int) : Rat) + 3 := by
  have m2 := mm_ge hn
  have mp := mm_pos hn
  have dd := cast_ge h0
  have du := cast_ge huu
  obtain ⟨a1, a2⟩ := up_bd (x * x) (m := 1000000000) (by decide)
  obtain ⟨b1, b2⟩ := up_bd (u * tU x x) (m := 1000000000) (by decide)
  obtain ⟨c1, c2⟩ := up_bd (tU u (tU x x)) mp
  rw [cast_mul, unitc] at a1 a2 b1 b2
  change _ ≤ (tU x x : Rat) * 1000000000 at a1
  change (tU x x : Rat) * 1000000000 ≤ _ at a2
  change _ ≤ (tU u (tU x x) : Rat) * 1000000000 at b1
  change (tU u (tU x x) : Rat) * 1000000000 ≤ _ at b2
  obtain ⟨_, _, hT⟩ := next_bd (T := T) (r := r) (n := n) T0 r0 (by grind) hn
  generalize T * r / ((n * (n + 1) : Int) : Rat) = T' at *
  generalize (NM.up (tU u (tU x x)) (n * (n + 1)) : Rat) = D2 at *
  generalize ((n * (n + 1) : Int) : Rat) = m at *
  generalize (tU u (tU x x) : Rat) = D1 at *
  generalize (tU x x : Rat) = X at *
  generalize (u : Rat) = dr at *
  have e1 : r * 1000000000 ≤ X := by grind
  have e2 : X ≤ r * 1000000000 + 1 := by grind
  have f1 := mul_le e1 (x := dr) (by grind)
  have f2 := mul_le e2 (x := dr) (by grind)
  have g1 := mul_le hu r0
  have g2 := mul_le hu3 r0
  constructor
  · refine le_of_mul (m := m) (by grind) ?_
    grind
  · refine le_of_mul (m := m) (by grind) ?_
    grind
theorem up_mono {a b m : Int} (h : a ≤ b) (hm : 0 < m) : NM.up a m ≤ NM.up b m := by
  unfold NM.up
  have := Int.ediv_le_ediv hm (show -b ≤ -a by omega)
  omega
theorem up_self {a b : Int} (h : a ≤ b * 1000000000) : NM.up a 1000000000 ≤ b := by
  unfold NM.up
  omega
theorem up_lim {u x n U : Int} (x0 : 0 ≤ x) (x1 : x ≤ 1000000000) (h0 : 0 ≤ u) (hU : u ≤ U) (hn : 1 ≤ n) : NM.up (tU u (tU x x)) (n * (n + 1)) ≤ NM.up U (n * (n + 1)) := by
  refine up_mono ?_ (mm_pos hn)
  have hX : tU x x ≤ 1000000000 := by
    refine up_self ?_
    have := Int.mul_le_mul x1 x1 x0 (by decide)
    omega
  have : tU u (tU x x) ≤ u := by
    refine up_self ?_
    exact Int.mul_le_mul_of_nonneg_left hX h0
  omega
def chain : Nat → Int → Int → Bool
  | 0, n, U => decide (n < 40) && (decide (U ≤ 1000000000) && decide (U ≤ n * (n + 1)))
  | k + 1, n, U => decide (n < 40) && (decide (U ≤ 1000000000) && chain k (n + 2) (NM.up U (n * (n + 1))))
/-- Where the row leads. -/
def goal (r : Rat) (J : Nat) (less : Bool) (T Z : Rat) (n : Int) : Rat := match less with
  | true => Z - al r J (T * r / ((n * (n + 1) : Int) : Rat)) (n + 2)
  | false => Z + al r J (T * r / ((n * (n + 1) : Int) : Rat)) (n + 2)
theorem cast_lt {a b : Int} (h : (a : Rat) ≤ (b : Rat)) : a ≤ b := by exact_mod_cast h
theorem cast_sub (a b : Int) : ((a - b : Int) : Rat) = (a : Rat) - (b : Rat) := by push_cast; rfl
theorem cast_add (a b : Int) : ((a + b : Int) : Rat) = (a : Rat) + (b : Rat) := by push_cast; rfl
theorem up_one {U m : Int} (hm : 0 < m) (h : U ≤ m) : NM.up U m ≤ 1 := by
  have := up_mono h hm
  have e : NM.up m m = 1 := by
    unfold NM.up
    rw [Int.neg_ediv_self m (by omega)]
    rfl
  omega
theorem row_end {f : Nat} {low high d u x n : Int} {less : Bool} (h : u ≤ 0) : row f low high d u less x n = (low, high) := by
  cases f with
  | zero => rfl
  | succ f => simp only [row]; rw [if_neg (by omega)]
theorem four {low high Z d u T W : Rat} (z1 : low ≤ Z) (z2 : Z ≤ high) (z3 : Z ≤ low + W) (z4 : high ≤ Z + W) (a1 : d ≤ T) (a2 : T ≤ d + 3) (b1 : T ≤ u) (b2 : u ≤ T + 3) :
    (low + d ≤ Z + T ∧ Z + T ≤ high + u ∧ Z + T ≤ low + d + (W + 3) ∧ high + u ≤ Z + T + (W + 3)) ∧ low - u ≤ Z - T ∧ Z - T ≤ high - d ∧ Z - T ≤ low - u + (W + 3) ∧ high - d ≤ Z - T + (W + 3) := by
  refine ⟨⟨?_, ?_, ?_, ?_⟩, ?_, ?_, ?_, ?_⟩ <;> grind
set_option maxHeartbeats 4000000 in
theorem enc {x : Int} {r : Rat} (x0 : 0 ≤ x) (x1 : x ≤ 1000000000) (hr : r * 1000000000000000000 = (x : Rat) * (x : Rat)) (r0 : 0 ≤ r) (r1 : r ≤ 62 / 100) :
    ∀ (k f J : Nat) (n U low high d u : Int) (less : Bool) (T Z W : Rat), 1 ≤ n → chain k n U = true → k < f → k ≤ J → 0 ≤ d → (d : Rat) ≤ T → T ≤ (d : Rat) + 3 → T ≤ (u : Rat) → (u : Rat) ≤ T + 3 → u ≤ U →
      (low : Rat) ≤ Z → Z ≤ (high : Rat) → Z ≤ (low : Rat) + W → (high : Rat) ≤ Z + W →
      ((row f low high d u less x n).1 : Rat) ≤ goal r J less T Z n ∧ goal r J less T Z n ≤ ((row f low high d u less x n).2 : Rat) ∧
      goal r J less T Z n ≤ ((row f low high d u less x n).1 : Rat) + (W + 3 * (k : Rat) + 5) ∧ ((row f low high d u less x n).2 : Rat) ≤ goal r J less T Z n + (W + 3 * (k : Rat) + 5) := by
  intro k
  induction k with
  | zero =>
    intro f J n U low high d u less T Z W hn hc hf hJ d0 h1 h2 h3 h4 hU z1 z2 z3 z4
    simp only [chain, Bool.and_eq_true, decide_eq_true_eq] at hc
    obtain ⟨n40, U9, Um⟩ := hc
    have dd := cast_ge d0
    have T0 : 0 ≤ T := by grind
    obtain ⟨t0, _, tm⟩ := next_bd T0 r0 (by grind) hn
    obtain ⟨l0, l1⟩ := al_bd r0 (by grind) J _ (n + 2) t0 (by omega)
    obtain ⟨f, rfl⟩ : ∃ g, f = g + 1 := ⟨f - 1, by omega⟩
    by_cases hu : 0 < u
    · have u0 : 0 ≤ u := by omega
      have du : d ≤ u := cast_lt (by grind)
      obtain ⟨a0, a1, a2⟩ := dn_step (T := T) (r := r) (d := d) (x := x) (n := n) x0 d0 h1 h2 (by omega) hr r0 r1 hn
      obtain ⟨b1, b2⟩ := up_step (T := T) (r := r) (u := u) (x := x) (n := n) u0 T0 h3 h4 (by omega) hr r0 r1 hn
      have lim := up_lim (u := u) (x := x) (n := n) (U := U) x0 x1 u0 hU hn
      have one := up_one (mm_pos hn) Um
      have m2 := mm_ge hn
      have T1 : T * r / ((n * (n + 1) : Int) : Rat) < 1 := by
        have hm := cast_ge Um
        have hu' := cast_ge hU
        have g1 := mul_le (show T ≤ ((n * (n + 1) : Int) : Rat) by grind) r0
        have g2 := mul_le r1 (x := ((n * (n + 1) : Int) : Rat)) (by grind)
        generalize T * r / ((n * (n + 1) : Int) : Rat) = T' at *
        generalize ((n * (n + 1) : Int) : Rat) = m at *
        rcases Rat.le_total (a := 1) (b := T') with h | h
        · have := mul_le h (x := m) (by grind)
          grind
        · have : T' ≠ 1 := by
            intro c
            subst c
            grind
          grind
      simp only [row]
      rw [if_pos ⟨hu, n40⟩]
      by_cases hx : NM.up (tU u (tU x x)) (n * (n + 1)) = 1 ∧ NM.down (tD d (tD x x)) (n * (n + 1)) = 0
      · rw [if_pos hx]
        simp only [cast_sub, cast_add]
        unfold goal
        cases less
        · simp only []; grind
        · simp only []; grind
      · rw [if_neg hx]
        have d1 : NM.down (tD d (tD x x)) (n * (n + 1)) = 0 := by
          have : ¬ (1 : Int) ≤ NM.down (tD d (tD x x)) (n * (n + 1)) := fun c => by
            have := cast_ge c
            grind
          omega
        have u1 : NM.up (tU u (tU x x)) (n * (n + 1)) ≤ 0 := by
          have : NM.up (tU u (tU x x)) (n * (n + 1)) ≠ 1 := fun c => hx ⟨c, d1⟩
          omega
        have u2 := cast_ge u1
        have tz : T * r / ((n * (n + 1) : Int) : Rat) = 0 := by grind
        have uz : NM.up (tU u (tU x x)) (n * (n + 1)) = 0 := by
          have : (0 : Int) ≤ NM.up (tU u (tU x x)) (n * (n + 1)) := cast_lt (by grind)
          omega
        unfold goal
        cases less
        · simp only []
          rw [row_end u1, d1, uz]
          simp only [Int.add_zero]
          grind
        · simp only []
          rw [row_end u1, d1, uz]
          simp only [Int.sub_zero]
          grind
    · rw [row_end (by omega)]
      have u2 := cast_ge (show u ≤ 0 by omega)
      have tz : T = 0 := by grind
      have tz2 : T * r / ((n * (n + 1) : Int) : Rat) = 0 := by rw [tz, Rat.div_def]; grind
      unfold goal
      cases less
      · simp only []; grind
      · simp only []; grind
  | succ k ih =>
    intro f J n U low high d u less T Z W hn hc hf hJ d0 h1 h2 h3 h4 hU z1 z2 z3 z4
    simp only [chain, Bool.and_eq_true, decide_eq_true_eq] at hc
    obtain ⟨n40, U9, hc⟩ := hc
    have dd := cast_ge d0
    have T0 : 0 ≤ T := by grind
    obtain ⟨t0, _, tm⟩ := next_bd T0 r0 (by grind) hn
    obtain ⟨l0, l1⟩ := al_bd r0 (by grind) J _ (n + 2) t0 (by omega)
    obtain ⟨f, rfl⟩ : ∃ g, f = g + 1 := ⟨f - 1, by omega⟩
    have K := TS.cast_nn k
    have ks := TS.cast_succ k
    by_cases hu : 0 < u
    · have u0 : 0 ≤ u := by omega
      have du : d ≤ u := cast_lt (by grind)
      obtain ⟨a0, a1, a2⟩ := dn_step (T := T) (r := r) (d := d) (x := x) (n := n) x0 d0 h1 h2 (by omega) hr r0 r1 hn
      obtain ⟨b1, b2⟩ := up_step (T := T) (r := r) (u := u) (x := x) (n := n) u0 T0 h3 h4 (by omega) hr r0 r1 hn
      have lim := up_lim (u := u) (x := x) (n := n) (U := U) x0 x1 u0 hU hn
      obtain ⟨J, rfl⟩ : ∃ g, J = g + 1 := ⟨J - 1, by omega⟩
      simp only [row]
      rw [if_pos ⟨hu, n40⟩]
      by_cases hx : NM.up (tU u (tU x x)) (n * (n + 1)) = 1 ∧ NM.down (tD d (tD x x)) (n * (n + 1)) = 0
      · rw [if_pos hx]
        have hx1 : (NM.up (tU u (tU x x)) (n * (n + 1)) : Rat) = 1 := by rw [hx.1]; rfl
        simp only [cast_sub, cast_add]
        unfold goal
        cases less
        · simp only []; grind
        · simp only []; grind
      · rw [if_neg hx]
        clear hx l0 l1
        obtain ⟨⟨y1, y2, y3, y4⟩, y5, y6, y7, y8⟩ := four z1 z2 z3 z4 a1 a2 b1 b2
        have eW : W + 3 + 3 * (k : Rat) + 5 = W + 3 * ((k + 1 : Nat) : Rat) + 5 := by rw [ks]; grind
        cases less
        · have := ih f J (n + 2) _ (low + NM.down (tD d (tD x x)) (n * (n + 1))) (high + NM.up (tU u (tU x x)) (n * (n + 1))) _ _ true (T * r / ((n * (n + 1) : Int) : Rat)) (Z + T * r / ((n * (n + 1) : Int) : Rat)) (W + 3) (by omega) hc (by omega) (by omega) a0 a1 a2 b1 b2 lim (by rw [cast_add]; exact y1) (by rw [cast_add]; exact y2) (by rw [cast_add]; exact y3) (by rw [cast_add]; exact y4)
          have g : goal r (J + 1) false T Z n = goal r J true (T * r / ((n * (n + 1) : Int) : Rat)) (Z + T * r / ((n * (n + 1) : Int) : Rat)) (n + 2) := by
            clear this y1 y2 y3 y4 y5 y6 y7 y8 ih
            simp only [goal, al]
            grind
          rw [g]
          rw [eW] at this
          exact this
        · have := ih f J (n + 2) _ (low - NM.up (tU u (tU x x)) (n * (n + 1))) (high - NM.down (tD d (tD x x)) (n * (n + 1))) _ _ false (T * r / ((n * (n + 1) : Int) : Rat)) (Z - T * r / ((n * (n + 1) : Int) : Rat)) (W + 3) (by omega) hc (by omega) (by omega) a0 a1 a2 b1 b2 lim (by rw [cast_sub]; exact y5) (by rw [cast_sub]; exact y6) (by rw [cast_sub]; exact y7) (by rw [cast_sub]; exact y8)
          have g : goal r (J + 1) true T Z n = goal r J false (T * r / ((n * (n + 1) : Int) : Rat)) (Z - T * r / ((n * (n + 1) : Int) : Rat)) (n + 2) := by
            clear this y1 y2 y3 y4 y5 y6 y7 y8 ih
            simp only [goal, al]
            grind
          rw [g]
          rw [eW] at this
          exact this
    · rw [row_end (by omega)]
      have u2 := cast_ge (show u ≤ 0 by omega)
      have tz : T = 0 := by grind
      have tz2 : T * r / ((n * (n + 1) : Int) : Rat) = 0 := by rw [tz, Rat.div_def]; grind
      unfold goal
      cases less
      · simp only []; grind
      · simp only []; grind
end SI
end Go.Proofs.Ytfdkpcejjcifgal
