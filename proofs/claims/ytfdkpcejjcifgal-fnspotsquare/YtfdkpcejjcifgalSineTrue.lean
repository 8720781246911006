/-
  Sines as they truly are: the powers of a rational number of length one; and what their rows give. No Go text in sight.
-/
namespace Go.Proofs.Ytfdkpcejjcifgal
set_option linter.unusedVariables false
namespace TS
/-- Half the step: its sine and cosine, both rational. -/
def q : Rat := 12120342027738399988124000000000000000000000000000000 / 1000000000000000036725672717340447386784117679289380835259844
def p : Rat := (1000000000000000000000000000000 * 1000000000000000000000000000000 - 6060171013869199994062 * 6060171013869199994062) / 1000000000000000036725672717340447386784117679289380835259844
theorem q_pos : 0 < q := by decide +kernel
theorem q_lt : q ≤ 1 / 10000000 := by decide +kernel
theorem p_pos : 0 < p := by decide +kernel
theorem one_pq : p * p + q * q = 1 := by decide +kernel
theorem p_le : p ≤ 1 := by decide +kernel
def cs : Nat → Rat × Rat
  | 0 => (1, 0)
  | n + 1 => (p * (cs n).1 - q * (cs n).2, p * (cs n).2 + q * (cs n).1)
def c (n : Nat) : Rat := (cs n).1
def s (n : Nat) : Rat := (cs n).2
theorem c0 : c 0 = 1 := rfl
theorem s0 : s 0 = 0 := rfl
theorem c_succ (n : Nat) : c (n + 1) = p * c n - q * s n := rfl
theorem s_succ (n : Nat) : s (n + 1) = p * s n + q * c n := rfl
theorem c1 : c 1 = p := by rw [c_succ, c0, s0]; grind
theorem s1 : s 1 = q := by rw [s_succ, c0, s0]; grind
theorem len (n : Nat) : c n * c n + s n * s n = 1 := by
  induction n with
  | zero => rw [c0, s0]; grind
  | succ n ih =>
    rw [c_succ, s_succ]
    have h := one_pq
    grind
theorem add (m n : Nat) : s (m + n) = s m * c n + c m * s n ∧ c (m + n) = c m * c n - s m * s n := by
  induction n with
  | zero => rw [Nat.add_zero, c0, s0]; grind
  | succ n ih =>
    obtain ⟨h1, h2⟩ := ih
    rw [← Nat.add_assoc, s_succ, c_succ, h1, h2, s_succ, c_succ]
    grind
theorem dS (n : Nat) : s (n + 2) = s n + 2 * q * c (n + 1) := by
  have h := one_pq
  have e1 : s (n + 2) = p * s (n + 1) + q * c (n + 1) := s_succ _
  have e2 := s_succ n
  have e3 := c_succ n
  grind
theorem dC (n : Nat) : c (n + 2) = c n - 2 * q * s (n + 1) := by
  have h := one_pq
  have e1 : c (n + 2) = p * c (n + 1) - q * s (n + 1) := c_succ _
  have e2 := s_succ n
  have e3 := c_succ n
  grind
theorem sq_nonneg (x : Rat) : 0 ≤ x * x := by
  rcases Rat.le_total (a := 0) (b := x) with h | h
  · exact Rat.mul_nonneg h h
  · have : 0 ≤ (-x) * (-x) := Rat.mul_nonneg (by grind) (by grind)
    grind
theorem c_le (n : Nat) : c n ≤ 1 := by
  have h := len n
  have h2 := sq_nonneg (s n)
  rcases Rat.le_total (a := c n) (b := 1) with h3 | h3
  · exact h3
  · have : 0 ≤ (c n - 1) * (c n) := Rat.mul_nonneg (by grind) (by grind)
    grind
/-! ### rows of powers -/
/-- A sum of powers, from the k-th on. -/
def ev : Nat → List Rat → Rat → Rat
  | _, [], _ => 0
  | k, a :: r, y => a * y ^ k + ev (k + 1) r y
/-- What has it for its slope. -/
def integ : Nat → List Rat → List Rat
  | _, [] => []
  | k, a :: r => a / ((k : Rat) + 1) :: integ (k + 1) r
def ab (x : Rat) : Rat := if 0 ≤ x then x else -x
theorem ab_bd (x : Rat) : x ≤ ab x ∧ -x ≤ ab x ∧ 0 ≤ ab x := by unfold ab; split <;> grind
def wt : Nat → List Rat → Rat
  | _, [] => 0
  | k, a :: r => ab a * (((k : Rat) + 1) * ((k : Rat) + 1)) + wt (k + 1) r
theorem pow_nn {x : Rat} (h : 0 ≤ x) (k : Nat) : 0 ≤ x ^ k := Rat.pow_nonneg h
theorem pow_one_le {x : Rat} (h : 0 ≤ x) (h1 : x ≤ 1) (k : Nat) : x ^ k ≤ 1 := by
  induction k with
  | zero => rw [Rat.pow_zero]; grind
  | succ k ih =>
    rw [Rat.pow_succ]
    have := pow_nn h k
    have h2 : 0 ≤ x ^ k * (1 - x) := Rat.mul_nonneg this (by grind)
    grind
theorem mul_le {a b x : Rat} (h : a ≤ b) (hx : 0 ≤ x) : a * x ≤ b * x := by
  have : 0 ≤ (b - a) * x := Rat.mul_nonneg (by grind) hx
  grind
theorem cast_nn (k : Nat) : (0 : Rat) ≤ (k : Rat) := by exact_mod_cast Nat.zero_le k
theorem cast_succ (k : Nat) : ((k + 1 : Nat) : Rat) = (k : Rat) + 1 := by push_cast; rfl
theorem cast_le {k m : Nat} (h : k ≤ m) : (k : Rat) ≤ (m : Rat) := by exact_mod_cast h
/-- The difference, and the sum, of powers a little above and below. -/
structure Pw (y : Rat) (k : Nat) : Prop where
  g0 : 2 * y ^ k ≤ (y + q) ^ k + (y - q) ^ k
  g1 : (y + q) ^ k + (y - q) ^ k ≤ 2 * y ^ k + (k : Rat) * (k : Rat) * (q * q)
  f0 : 0 ≤ (y + q) ^ k - (y - q) ^ k
  f1 : (y + q) ^ k - (y - q) ^ k ≤ 2 * (k : Rat) * q + (k : Rat) * (k : Rat) * (k : Rat) * (q * q * q)
  e0 : 2 * (k : Rat) * q * y ^ k ≤ y * ((y + q) ^ k - (y - q) ^ k)
  e1 : y * ((y + q) ^ k - (y - q) ^ k) ≤ 2 * (k : Rat) * q * y ^ k + (k : Rat) * (k : Rat) * (k : Rat) * (q * q * q)
theorem pw_next {y : Rat} {k : Nat} (P : Pw y k) :
    2 * ((k : Rat) + 1) * q * y ^ k ≤ (y + q) ^ (k + 1) - (y - q) ^ (k + 1) ∧ (y + q) ^ (k + 1) - (y - q) ^ (k + 1) ≤ 2 * ((k : Rat) + 1) * q * y ^ k + ((k : Rat) + 1) * ((k : Rat) + 1) * ((k : Rat) + 1) * (q * q * q) := by
  have hq := q_pos
  have K0 := cast_nn k
  have KK := Rat.mul_nonneg K0 K0
  have q3 : 0 ≤ q * q * q := Rat.mul_nonneg (sq_nonneg q) (by grind)
  have k3 := Rat.mul_nonneg K0 q3
  have k4 := Rat.mul_nonneg KK q3
  rw [Rat.pow_succ, Rat.pow_succ]
  have g0' := mul_le P.g0 (x := q) (by grind)
  have g1' := mul_le P.g1 (x := q) (by grind)
  have e0 := P.e0
  have e1 := P.e1
  generalize (y + q) ^ k = u at *
  generalize (y - q) ^ k = v at *
  generalize y ^ k = z at *
  generalize (k : Rat) = K at *
  constructor
  · grind
  · grind
theorem pw {y : Rat} (h0 : q ≤ y) (h1 : y ≤ 1) (k : Nat) (hk : k ≤ 100) : Pw y k := by
  have hq := q_pos
  induction k with
  | zero => exact ⟨by simp; grind, by simp; grind, by simp; grind, by simp; grind, by simp; grind, by simp; grind⟩
  | succ k ih =>
    have P := ih (by omega)
    obtain ⟨n0, n1⟩ := pw_next P
    have K0 := cast_nn k
    have KK := Rat.mul_nonneg K0 K0
    have K1 : (k : Rat) ≤ 100 := by have := cast_le (show k ≤ 100 by omega); simpa using this
    have ql := q_lt
    have q2 := sq_nonneg q
    have q3 : 0 ≤ q * q * q := Rat.mul_nonneg q2 (by grind)
    have yk := pow_nn (show 0 ≤ y by grind) k
    have yk1 := pow_one_le (show 0 ≤ y by grind) h1 k
    have p1 := mul_le yk1 (x := 2 * ((k : Rat) + 1) * q) (Rat.mul_nonneg (by grind) (by grind))
    have p2 := mul_le n0 (x := y) (by grind)
    have p3 := mul_le n1 (x := y) (by grind)
    have c3 : 0 ≤ ((k : Rat) + 1) * ((k : Rat) + 1) * ((k : Rat) + 1) * (q * q * q) := Rat.mul_nonneg (Rat.mul_nonneg (Rat.mul_nonneg (by grind) (by grind)) (by grind)) q3
    have p4 := mul_le h1 (x := ((k : Rat) + 1) * ((k : Rat) + 1) * ((k : Rat) + 1) * (q * q * q)) c3
    -- the sum
    have s0 := mul_le P.g0 (x := y) (by grind)
    have s1 := mul_le P.g1 (x := y) (by grind)
    have s2 := mul_le P.f0 (x := q) (by grind)
    have s3 := mul_le P.f1 (x := q) (by grind)
    have s4 := mul_le h1 (x := (k : Rat) * (k : Rat) * (q * q)) (Rat.mul_nonneg KK q2)
    have s5 : (k : Rat) * (k : Rat) * (k : Rat) * (q * q * q) * q ≤ q * q := by
      have a1 : (k : Rat) * q ≤ 1 / 100 := by have := mul_le K1 (x := q) (by grind); grind
      have a0 : 0 ≤ (k : Rat) * q := Rat.mul_nonneg K0 (by grind)
      have a2 := mul_le a1 (x := (k : Rat) * q) a0
      have a3 := mul_le K1 (x := ((k : Rat) * q) * ((k : Rat) * q)) (sq_nonneg _)
      have a4 : (k : Rat) * (((k : Rat) * q) * ((k : Rat) * q)) ≤ 1 := by grind
      have a5 := mul_le a4 (x := q * q) q2
      grind
    refine ⟨?_, ?_, ?_, ?_, ?_, ?_⟩
    · rw [Rat.pow_succ, Rat.pow_succ, Rat.pow_succ]
      grind
    · rw [Rat.pow_succ, Rat.pow_succ, Rat.pow_succ, cast_succ]
      grind
    · have : 0 ≤ 2 * ((k : Rat) + 1) * q * y ^ k := Rat.mul_nonneg (Rat.mul_nonneg (by grind) (by grind)) yk
      grind
    · rw [cast_succ]
      grind
    · rw [cast_succ, Rat.pow_succ y]
      grind
    · rw [cast_succ, Rat.pow_succ y]
      grind
theorem inv_mul (k : Nat) : ((k : Rat) + 1)⁻¹ * ((k : Rat) + 1) = 1 := Rat.inv_mul_cancel _ (by have := cast_nn k; grind)
theorem inv_pos (k : Nat) : 0 ≤ ((k : Rat) + 1)⁻¹ := by
  have h := inv_mul k
  have K := cast_nn k
  rcases Rat.le_total (a := 0) (b := ((k : Rat) + 1)⁻¹) with h2 | h2
  · exact h2
  · have : 0 ≤ (-((k : Rat) + 1)⁻¹) * ((k : Rat) + 1) := Rat.mul_nonneg (by grind) (by grind)
    grind
/-- One power's slope. -/
theorem one_diff {y : Rat} (h0 : q ≤ y) (h1 : y ≤ 1) (a : Rat) (k : Nat) (hk : k ≤ 100) :
    2 * q * (a * y ^ k) - ab a * (((k : Rat) + 1) * ((k : Rat) + 1)) * (q * q * q) ≤ a / ((k : Rat) + 1) * ((y + q) ^ (k + 1) - (y - q) ^ (k + 1)) ∧
    a / ((k : Rat) + 1) * ((y + q) ^ (k + 1) - (y - q) ^ (k + 1)) ≤ 2 * q * (a * y ^ k) + ab a * (((k : Rat) + 1) * ((k : Rat) + 1)) * (q * q * q) := by
  obtain ⟨n0, n1⟩ := pw_next (pw h0 h1 k hk)
  have hi := inv_mul k
  have hp := inv_pos k
  have hq := q_pos
  have K := cast_nn k
  have q3 : 0 ≤ q * q * q := Rat.mul_nonneg (sq_nonneg q) (by grind)
  obtain ⟨a1, a2, a3⟩ := ab_bd a
  rw [Rat.div_def]
  generalize (y + q) ^ (k + 1) - (y - q) ^ (k + 1) = F at *
  generalize y ^ k = z at *
  generalize ((k : Rat) + 1)⁻¹ = i at *
  generalize (k : Rat) + 1 = m at *
  -- r: what is over
  obtain ⟨r, hr⟩ : ∃ r, F = 2 * m * q * z + r := ⟨F - 2 * m * q * z, by grind⟩
  have r0 : 0 ≤ r := by grind
  have r1 : r ≤ m * m * m * (q * q * q) := by grind
  have ir := mul_le r1 hp
  have ir0 : 0 ≤ r * i := Rat.mul_nonneg r0 hp
  have b1 := mul_le a1 ir0
  have b2 := mul_le a2 ir0
  have b3 := mul_le ir a3
  have e1 : m * m * m * (q * q * q) * i * ab a = ab a * (m * m) * (q * q * q) := by grind
  have e2 : a * i * F = 2 * q * (a * z) + a * (r * i) := by rw [hr]; grind
  rw [e2]
  constructor
  · grind
  · grind
theorem ev_diff {y : Rat} (h0 : q ≤ y) (h1 : y ≤ 1) (A : List Rat) : ∀ k : Nat, k + A.length ≤ 100 →
    2 * q * ev k A y - wt k A * (q * q * q) ≤ ev (k + 1) (integ k A) (y + q) - ev (k + 1) (integ k A) (y - q) ∧
    ev (k + 1) (integ k A) (y + q) - ev (k + 1) (integ k A) (y - q) ≤ 2 * q * ev k A y + wt k A * (q * q * q) := by
  induction A with
  | nil => intro k _; simp only [ev, integ, wt]; grind
  | cons a r ih =>
    intro k hk
    simp only [List.length_cons] at hk
    obtain ⟨i0, i1⟩ := ih (k + 1) (by omega)
    obtain ⟨o0, o1⟩ := one_diff h0 h1 a k (by omega)
    simp only [ev, integ, wt]
    constructor
    · grind
    · grind
theorem ev_zero (A : List Rat) : ∀ k : Nat, 1 ≤ k → ev k A 0 = 0 := by
  induction A with
  | nil => intro k _; rfl
  | cons a r ih =>
    intro k hk
    simp only [ev]
    rw [ih (k + 1) (by omega)]
    obtain ⟨j, rfl⟩ : ∃ j, k = j + 1 := ⟨k - 1, by omega⟩
    rw [Rat.pow_succ]
    grind
def e : Rat := 10 * (q * q)
/-- The slope's sum, a little more (or less) at its first place. -/
def up (A : List Rat) (t : Rat) : List Rat := match integ 0 A with | [] => [t] | a :: r => (a + t) :: r
theorem ev_up (A : List Rat) (t y : Rat) : ev 1 (up A t) y = ev 1 (integ 0 A) y + t * y := by
  unfold up
  cases integ 0 A with
  | nil => simp only [ev]; grind
  | cons a r => simp only [ev]; grind
def neg (A : List Rat) : List Rat := A.map fun a => -a
theorem ev_neg (A : List Rat) (y : Rat) : ∀ k, ev k (neg A) y = -ev k A y := by
  induction A with
  | nil => intro k; simp only [neg, List.map, ev]; grind
  | cons a r ih =>
    intro k
    have := ih (k + 1)
    simp only [neg, List.map, ev] at *
    rw [this]
    grind
def xx (n : Nat) : Rat := q * (n : Rat)
theorem xx_succ (n : Nat) : xx (n + 1) = xx n + q := by unfold xx; rw [cast_succ]; grind
theorem xx_ge (n : Nat) : q ≤ xx (n + 1) := by
  have h := Rat.mul_nonneg (show 0 ≤ q by have := q_pos; grind) (cast_nn n)
  rw [xx_succ]
  unfold xx
  grind
theorem xx0 : xx 0 = 0 := by unfold xx; simp
theorem xx1 : xx 1 = q := by unfold xx; simp
theorem slack {w : Rat} (hw : w ≤ 20) : w * (q * q * q) ≤ 2 * q * e := by
  have hq := q_pos
  have q3 : 0 ≤ q * q * q := Rat.mul_nonneg (sq_nonneg q) (by grind)
  have := mul_le hw q3
  unfold e
  grind
/-- By twos. -/
theorem twos {P : Nat → Prop} (h0 : P 0) (h1 : P 1) (h : ∀ n, P n → P (n + 2)) : ∀ n, P n ∧ P (n + 1) := by
  intro n
  induction n with
  | zero => exact ⟨h0, h1⟩
  | succ n ih => exact ⟨ih.2, h n ih.1⟩
theorem S_le {A : List Rat} (hl : A.length ≤ 100) (hw : wt 0 A ≤ 20) (hA : ∀ n, xx n ≤ 1 → c n ≤ ev 0 A (xx n)) (hb : q ≤ ev 1 (up A e) q) : ∀ n, xx n ≤ 1 → s n ≤ ev 1 (up A e) (xx n) := fun n => by
  refine (twos (P := fun n => xx n ≤ 1 → s n ≤ ev 1 (up A e) (xx n)) ?_ ?_ ?_ n).1
  · intro _
    rw [xx0, ev_zero _ _ (by omega), s0]
    grind
  · intro _
    rw [xx1, s1]
    exact hb
  · intro n ih hx
    have hq := q_pos
    have e1 := xx_succ n
    have e2 : xx (n + 2) = xx (n + 1) + q := xx_succ (n + 1)
    have e3 : xx (n + 1) - q = xx n := by grind
    have e5 : e * xx (n + 2) = e * xx n + 2 * q * e := by rw [e2, e1]; grind
    have d := (ev_diff (y := xx (n + 1)) (xx_ge n) (by grind) A 0 (by omega)).1
    have i := ih (by grind)
    have cc := mul_le (hA (n + 1) (by grind)) (x := 2 * q) (by grind)
    have sl := slack hw
    rw [dS, ev_up]
    rw [ev_up] at i
    rw [e3, ← e2] at d
    clear hA ih hb hw hl hx e1 e2 e3
    grind
theorem S_ge {A : List Rat} (hl : A.length ≤ 100) (hw : wt 0 A ≤ 20) (hA : ∀ n, xx n ≤ 1 → ev 0 A (xx n) ≤ c n) (hb : ev 1 (up A (-e)) q ≤ q) : ∀ n, xx n ≤ 1 → ev 1 (up A (-e)) (xx n) ≤ s n := fun n => by
  refine (twos (P := fun n => xx n ≤ 1 → ev 1 (up A (-e)) (xx n) ≤ s n) ?_ ?_ ?_ n).1
  · intro _
    rw [xx0, ev_zero _ _ (by omega), s0]
    grind
  · intro _
    rw [xx1, s1]
    exact hb
  · intro n ih hx
    have hq := q_pos
    have e1 := xx_succ n
    have e2 : xx (n + 2) = xx (n + 1) + q := xx_succ (n + 1)
    have e3 : xx (n + 1) - q = xx n := by grind
    have e5 : e * xx (n + 2) = e * xx n + 2 * q * e := by rw [e2, e1]; grind
    have d := (ev_diff (y := xx (n + 1)) (xx_ge n) (by grind) A 0 (by omega)).2
    have i := ih (by grind)
    have cc := mul_le (hA (n + 1) (by grind)) (x := 2 * q) (by grind)
    have sl := slack hw
    rw [dS, ev_up]
    rw [ev_up] at i
    rw [e3, ← e2] at d
    clear hA ih hb hw hl hx e1 e2 e3
    grind
theorem C_ge {B : List Rat} (hl : B.length ≤ 100) (hw : wt 0 B ≤ 20) (hB : ∀ n, xx n ≤ 1 → s n ≤ ev 0 B (xx n)) (hb : 1 - ev 1 (up B e) q ≤ p) : ∀ n, xx n ≤ 1 → 1 - ev 1 (up B e) (xx n) ≤ c n := fun n => by
  refine (twos (P := fun n => xx n ≤ 1 → 1 - ev 1 (up B e) (xx n) ≤ c n) ?_ ?_ ?_ n).1
  · intro _
    rw [xx0, ev_zero _ _ (by omega), c0]
    grind
  · intro _
    rw [xx1, c1]
    exact hb
  · intro n ih hx
    have hq := q_pos
    have e1 := xx_succ n
    have e2 : xx (n + 2) = xx (n + 1) + q := xx_succ (n + 1)
    have e3 : xx (n + 1) - q = xx n := by grind
    have e5 : e * xx (n + 2) = e * xx n + 2 * q * e := by rw [e2, e1]; grind
    have d := (ev_diff (y := xx (n + 1)) (xx_ge n) (by grind) B 0 (by omega)).1
    have i := ih (by grind)
    have cc := mul_le (hB (n + 1) (by grind)) (x := 2 * q) (by grind)
    have sl := slack hw
    rw [dC, ev_up]
    rw [ev_up] at i
    rw [e3, ← e2] at d
    clear hB ih hb hw hl hx e1 e2 e3
    grind
theorem C_le {B : List Rat} (hl : B.length ≤ 100) (hw : wt 0 B ≤ 20) (hB : ∀ n, xx n ≤ 1 → ev 0 B (xx n) ≤ s n) (hb : p ≤ 1 - ev 1 (up B (-e)) q) : ∀ n, xx n ≤ 1 → c n ≤ 1 - ev 1 (up B (-e)) (xx n) := fun n => by
  refine (twos (P := fun n => xx n ≤ 1 → c n ≤ 1 - ev 1 (up B (-e)) (xx n)) ?_ ?_ ?_ n).1
  · intro _
    rw [xx0, ev_zero _ _ (by omega), c0]
    grind
  · intro _
    rw [xx1, c1]
    exact hb
  · intro n ih hx
    have hq := q_pos
    have e1 := xx_succ n
    have e2 : xx (n + 2) = xx (n + 1) + q := xx_succ (n + 1)
    have e3 : xx (n + 1) - q = xx n := by grind
    have e5 : e * xx (n + 2) = e * xx n + 2 * q * e := by rw [e2, e1]; grind
    have d := (ev_diff (y := xx (n + 1)) (xx_ge n) (by grind) B 0 (by omega)).2
    have i := ih (by grind)
    have cc := mul_le (hB (n + 1) (by grind)) (x := 2 * q) (by grind)
    have sl := slack hw
    rw [dC, ev_up]
    rw [ev_up] at i
    rw [e3, ← e2] at d
    clear hB ih hb hw hl hx e1 e2 e3
    grind
/-! ### the rows -/
def sR (B : List Rat) : List Rat := 0 :: B
def cR (D : List Rat) : List Rat := 1 :: neg D
theorem ev_sR (B : List Rat) (y : Rat) : ev 0 (sR B) y = ev 1 B y := by simp only [sR, ev]; grind
theorem ev_cR (D : List Rat) (y : Rat) : ev 0 (cR D) y = 1 - ev 1 D y := by simp only [cR, ev, ev_neg, Rat.pow_zero]; grind
/-- The bounds, one behind the other: a cosine's bound above, a sine's above, a cosine's below, a sine's below, .. -/
def A0 : List Rat := [1]
def B1 : List Rat := sR (up A0 e)
def A2 : List Rat := cR (up B1 e)
def B3 : List Rat := sR (up A2 (-e))
def A4 : List Rat := cR (up B3 (-e))
def B5 : List Rat := sR (up A4 e)
def A6 : List Rat := cR (up B5 e)
def B7 : List Rat := sR (up A6 (-e))
def A8 : List Rat := cR (up B7 (-e))
def B9 : List Rat := sR (up A8 e)
def A10 : List Rat := cR (up B9 e)
def B11 : List Rat := sR (up A10 (-e))
def A12 : List Rat := cR (up B11 (-e))
def B13 : List Rat := sR (up A12 e)
def A14 : List Rat := cR (up B13 e)
def B15 : List Rat := sR (up A14 (-e))
def A16 : List Rat := cR (up B15 (-e))
def B17 : List Rat := sR (up A16 e)
theorem a0 : ∀ n, xx n ≤ 1 → c n ≤ ev 0 A0 (xx n) := fun n _ => by
  have := c_le n
  simp only [A0, ev, Rat.pow_zero]
  grind
theorem b1 : ∀ n, xx n ≤ 1 → s n ≤ ev 0 B1 (xx n) := fun n h => by rw [B1, ev_sR]; exact S_le (by decide +kernel) (by decide +kernel) a0 (by decide +kernel) n h
theorem a2 : ∀ n, xx n ≤ 1 → ev 0 A2 (xx n) ≤ c n := fun n h => by rw [A2, ev_cR]; exact C_ge (by decide +kernel) (by decide +kernel) b1 (by decide +kernel) n h
theorem b3 : ∀ n, xx n ≤ 1 → ev 0 B3 (xx n) ≤ s n := fun n h => by rw [B3, ev_sR]; exact S_ge (by decide +kernel) (by decide +kernel) a2 (by decide +kernel) n h
theorem a4 : ∀ n, xx n ≤ 1 → c n ≤ ev 0 A4 (xx n) := fun n h => by rw [A4, ev_cR]; exact C_le (by decide +kernel) (by decide +kernel) b3 (by decide +kernel) n h
theorem b5 : ∀ n, xx n ≤ 1 → s n ≤ ev 0 B5 (xx n) := fun n h => by rw [B5, ev_sR]; exact S_le (by decide +kernel) (by decide +kernel) a4 (by decide +kernel) n h
theorem a6 : ∀ n, xx n ≤ 1 → ev 0 A6 (xx n) ≤ c n := fun n h => by rw [A6, ev_cR]; exact C_ge (by decide +kernel) (by decide +kernel) b5 (by decide +kernel) n h
theorem b7 : ∀ n, xx n ≤ 1 → ev 0 B7 (xx n) ≤ s n := fun n h => by rw [B7, ev_sR]; exact S_ge (by decide +kernel) (by decide +kernel) a6 (by decide +kernel) n h
theorem a8 : ∀ n, xx n ≤ 1 → c n ≤ ev 0 A8 (xx n) := fun n h => by rw [A8, ev_cR]; exact C_le (by decide +kernel) (by decide +kernel) b7 (by decide +kernel) n h
theorem b9 : ∀ n, xx n ≤ 1 → s n ≤ ev 0 B9 (xx n) := fun n h => by rw [B9, ev_sR]; exact S_le (by decide +kernel) (by decide +kernel) a8 (by decide +kernel) n h
theorem a10 : ∀ n, xx n ≤ 1 → ev 0 A10 (xx n) ≤ c n := fun n h => by rw [A10, ev_cR]; exact C_ge (by decide +kernel) (by decide +kernel) b9 (by decide +kernel) n h
theorem b11 : ∀ n, xx n ≤ 1 → ev 0 B11 (xx n) ≤ s n := fun n h => by rw [B11, ev_sR]; exact S_ge (by decide +kernel) (by decide +kernel) a10 (by decide +kernel) n h
theorem a12 : ∀ n, xx n ≤ 1 → c n ≤ ev 0 A12 (xx n) := fun n h => by rw [A12, ev_cR]; exact C_le (by decide +kernel) (by decide +kernel) b11 (by decide +kernel) n h
theorem b13 : ∀ n, xx n ≤ 1 → s n ≤ ev 0 B13 (xx n) := fun n h => by rw [B13, ev_sR]; exact S_le (by decide +kernel) (by decide +kernel) a12 (by decide +kernel) n h
theorem a14 : ∀ n, xx n ≤ 1 → ev 0 A14 (xx n) ≤ c n := fun n h => by rw [A14, ev_cR]; exact C_ge (by decide +kernel) (by decide +kernel) b13 (by decide +kernel) n h
theorem b15 : ∀ n, xx n ≤ 1 → ev 0 B15 (xx n) ≤ s n := fun n h => by rw [B15, ev_sR]; exact S_ge (by decide +kernel) (by decide +kernel) a14 (by decide +kernel) n h
theorem a16 : ∀ n, xx n ≤ 1 → c n ≤ ev 0 A16 (xx n) := fun n h => by rw [A16, ev_cR]; exact C_le (by decide +kernel) (by decide +kernel) b15 (by decide +kernel) n h
theorem b17 : ∀ n, xx n ≤ 1 → s n ≤ ev 0 B17 (xx n) := fun n h => by rw [B17, ev_sR]; exact S_le (by decide +kernel) (by decide +kernel) a16 (by decide +kernel) n h
end TS
end Go.Proofs.Ytfdkpcejjcifgal
