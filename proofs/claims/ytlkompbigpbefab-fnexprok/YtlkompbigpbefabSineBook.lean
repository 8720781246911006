/-
  The true sines, the rows that reckon them, and halving: plain mathematics.
-/
import Derived.Test.YtlkompbigpbefabNumMath
import Derived.Test.YtlkompbigpbefabSpanMath
namespace Go.Proofs.Ytlkompbigpbefab
set_option linter.unusedVariables false
namespace TS
/-- Half the step: its sine and cosine, both rational. -/
def q : Rat := 12120342027738399988124000000000000000000000000000000 / 1000000000000000036725672717340447386784117679289380835259844
def p : Rat := (1000000000000000000000000000000 * 1000000000000000000000000000000 - 6060171013869199994062 * 6060171013869199994062) / 1000000000000000036725672717340447386784117679289380835259844
theorem q_pos : 0 < q := by decide +kernel
theorem q_lt : q ≤ 1 / 10000000 := by decide +kernel
theorem p_pos : 0 < p := by decide +kernel
theorem one_pq : p * p + q * q = 1 := by decide +kernel
theorem p_le : p ≤ 1 := by decide +kernel
def cs : Nat → Rat × Rat
  | 0 => (1, 0)
  | n + 1 => (p * (cs n).1 - q * (cs n).2, p * (cs n).2 + q * (cs n).1)
def c (n : Nat) : Rat := (cs n).1
def s (n : Nat) : Rat := (cs n).2
theorem c0 : c 0 = 1 := rfl
theorem s0 : s 0 = 0 := rfl
theorem c_succ (n : Nat) : c (n + 1) = p * c n - q * s n := rfl
theorem s_succ (n : Nat) : s (n + 1) = p * s n + q * c n := rfl
theorem c1 : c 1 = p := by rw [c_succ, c0, s0]; grind
theorem s1 : s 1 = q := by rw [s_succ, c0, s0]; grind
theorem len (n : Nat) : c n * c n + s n * s n = 1 := by
  induction n with
  | zero => rw [c0, s0]; grind
  | succ n ih =>
    rw [c_succ, s_succ]
    have h := one_pq
    grind
theorem add (m n : Nat) : s (m + n) = s m * c n + c m * s n ∧ c (m + n) = c m * c n - s m * s n := by
  induction n with
  | zero => rw [Nat.add_zero, c0, s0]; grind
  | succ n ih =>
    obtain ⟨h1, h2⟩ := ih
    rw [← Nat.add_assoc, s_succ, c_succ, h1, h2, s_succ, c_succ]
    grind
theorem dS (n : Nat) : s (n + 2) = s n + 2 * q * c (n + 1) := by
  have h := one_pq
  have e1 : s (n + 2) = p * s (n + 1) + q * c (n + 1) := s_succ _
  have e2 := s_succ n
  have e3 := c_succ n
  grind
theorem dC (n : Nat) : c (n + 2) = c n - 2 * q * s (n + 1) := by
  have h := one_pq
  have e1 : c (n + 2) = p * c (n + 1) - q * s (n + 1) := c_succ _
  have e2 := s_succ n
  have e3 := c_succ n
  grind
theorem sq_nonneg (x : Rat) : 0 ≤ x * x := by
  rcases Rat.le_total (a := 0) (b := x) with h | h
  · exact Rat.mul_nonneg h h
  · have : 0 ≤ (-x) * (-x) := Rat.mul_nonneg (by grind) (by grind)
    grind
theorem c_le (n : Nat) : c n ≤ 1 := by
  have h := len n
  have h2 := sq_nonneg (s n)
  rcases Rat.le_total (a := c n) (b := 1) with h3 | h3
  · exact h3
  · have : 0 ≤ (c n - 1) * (c n) := Rat.mul_nonneg (by grind) (by grind)
    grind
/-! ### rows of powers -/
/-- A sum of powers, from the k-th on. -/
def ev : Nat → List Rat → Rat → Rat
  | _, [], _ => 0
  | k, a :: r, y => a * y ^ k + ev (k + 1) r y
/-- What has it for its slope. -/
def integ : Nat → List Rat → List Rat
  | _, [] => []
  | k, a :: r => a / ((k : Rat) + 1) :: integ (k + 1) r
def ab (x : Rat) : Rat := if 0 ≤ x then x else -x
theorem ab_bd (x : Rat) : x ≤ ab x ∧ -x ≤ ab x ∧ 0 ≤ ab x := by unfold ab; split <;> grind
def wt : Nat → List Rat → Rat
  | _, [] => 0
  | k, a :: r => ab a * (((k : Rat) + 1) * ((k : Rat) + 1)) + wt (k + 1) r
theorem pow_nn {x : Rat} (h : 0 ≤ x) (k : Nat) : 0 ≤ x ^ k := Rat.pow_nonneg h
theorem pow_one_le {x : Rat} (h : 0 ≤ x) (h1 : x ≤ 1) (k : Nat) : x ^ k ≤ 1 := by
  induction k with
  | zero => rw [Rat.pow_zero]; grind
  | succ k ih =>
    rw [Rat.pow_succ]
    have := pow_nn h k
    have h2 : 0 ≤ x ^ k * (1 - x) := Rat.mul_nonneg this (by grind)
    grind
theorem mul_le {a b x : Rat} (h : a ≤ b) (hx : 0 ≤ x) : a * x ≤ b * x := by
  have : 0 ≤ (b - a) * x := Rat.mul_nonneg (by grind) hx
  grind
theorem cast_nn (k : Nat) : (0 : Rat) ≤ (k : Rat) := by exact_mod_cast Nat.zero_le k
theorem cast_succ (k : Nat) : ((k + 1 : Nat) : Rat) = (k : Rat) + 1 := by push_cast; rfl
theorem cast_le {k m : Nat} (h : k ≤ m) : (k : Rat) ≤ (m : Rat) := by exact_mod_cast h
/-- The difference, and the sum, of powers a little above and below. -/
structure Pw (y : Rat) (k : Nat) : Prop where
  g0 : 2 * y ^ k ≤ (y + q) ^ k + (y - q) ^ k
  g1 : (y + q) ^ k + (y - q) ^ k ≤ 2 * y ^ k + (k : Rat) * (k : Rat) * (q * q)
  f0 : 0 ≤ (y + q) ^ k - (y - q) ^ k
  f1 : (y + q) ^ k - (y - q) ^ k ≤ 2 * (k : Rat) * q + (k : Rat) * (k : Rat) * (k : Rat) * (q * q * q)
  e0 : 2 * (k : Rat) * q * y ^ k ≤ y * ((y + q) ^ k - (y - q) ^ k)
  e1 : y * ((y + q) ^ k - (y - q) ^ k) ≤ 2 * (k : Rat) * q * y ^ k + (k : Rat) * (k : Rat) * (k : Rat) * (q * q * q)
theorem pw_next {y : Rat} {k : Nat} (P : Pw y k) :
    2 * ((k : Rat) + 1) * q * y ^ k ≤ (y + q) ^ (k + 1) - (y - q) ^ (k + 1) ∧ (y + q) ^ (k + 1) - (y - q) ^ (k + 1) ≤ 2 * ((k : Rat) + 1) * q * y ^ k + ((k : Rat) + 1) * ((k : Rat) + 1) * ((k : Rat) + 1) * (q * q * q) := by
  have hq := q_pos
  have K0 := cast_nn k
  have KK := Rat.mul_nonneg K0 K0
  have q3 : 0 ≤ q * q * q := Rat.mul_nonneg (sq_nonneg q) (by grind)
  have k3 := Rat.mul_nonneg K0 q3
  have k4 := Rat.mul_nonneg KK q3
  rw [Rat.pow_succ, Rat.pow_succ]
  have g0' := mul_le P.g0 (x := q) (by grind)
  have g1' := mul_le P.g1 (x := q) (by grind)
  have e0 := P.e0
  have e1 := P.e1
  generalize (y + q) ^ k = u at *
  generalize (y - q) ^ k = v at *
  generalize y ^ k = z at *
  generalize (k : Rat) = K at *
  constructor
  · grind
  · grind
theorem pw {y : Rat} (h0 : q ≤ y) (h1 : y ≤ 1) (k : Nat) (hk : k ≤ 100) : Pw y k := by
  have hq := q_pos
  induction k with
  | zero => exact ⟨by simp; grind, by simp; grind, by simp; grind, by simp; grind, by simp; grind, by simp; grind⟩
  | succ k ih =>
    have P := ih (by omega)
    obtain ⟨n0, n1⟩ := pw_next P
    have K0 := cast_nn k
    have KK := Rat.mul_nonneg K0 K0
    have K1 : (k : Rat) ≤ 100 := by have := cast_le (show k ≤ 100 by omega); simpa using this
    have ql := q_lt
    have q2 := sq_nonneg q
    have q3 : 0 ≤ q * q * q := Rat.mul_nonneg q2 (by grind)
    have yk := pow_nn (show 0 ≤ y by grind) k
    have yk1 := pow_one_le (show 0 ≤ y by grind) h1 k
    have p1 := mul_le yk1 (x := 2 * ((k : Rat) + 1) * q) (Rat.mul_nonneg (by grind) (by grind))
    have p2 := mul_le n0 (x := y) (by grind)
    have p3 := mul_le n1 (x := y) (by grind)
    have c3 : 0 ≤ ((k : Rat) + 1) * ((k : Rat) + 1) * ((k : Rat) + 1) * (q * q * q) := Rat.mul_nonneg (Rat.mul_nonneg (Rat.mul_nonneg (by grind) (by grind)) (by grind)) q3
    have p4 := mul_le h1 (x := ((k : Rat) + 1) * ((k : Rat) + 1) * ((k : Rat) + 1) * (q * q * q)) c3
    -- the sum
    have s0 := mul_le P.g0 (x := y) (by grind)
    have s1 := mul_le P.g1 (x := y) (by grind)
    have s2 := mul_le P.f0 (x := q) (by grind)
    have s3 := mul_le P.f1 (x := q) (by grind)
    have s4 := mul_le h1 (x := (k : Rat) * (k : Rat) * (q * q)) (Rat.mul_nonneg KK q2)
    have s5 : (k : Rat) * (k : Rat) * (k : Rat) * (q * q * q) * q ≤ q * q := by
      have a1 : (k : Rat) * q ≤ 1 / 100 := by have := mul_le K1 (x := q) (by grind); grind
      have a0 : 0 ≤ (k : Rat) * q := Rat.mul_nonneg K0 (by grind)
      have a2 := mul_le a1 (x := (k : Rat) * q) a0
      have a3 := mul_le K1 (x := ((k : Rat) * q) * ((k : Rat) * q)) (sq_nonneg _)
      have a4 : (k : Rat) * (((k : Rat) * q) * ((k : Rat) * q)) ≤ 1 := by grind
      have a5 := mul_le a4 (x := q * q) q2
      grind
    refine ⟨?_, ?_, ?_, ?_, ?_, ?_⟩
    · rw [Rat.pow_succ, Rat.pow_succ, Rat.pow_succ]
      grind
    · rw [Rat.pow_succ, Rat.pow_succ, Rat.pow_succ, cast_succ]
      grind
    · have : 0 ≤ 2 * ((k : Rat) + 1) * q * y ^ k := Rat.mul_nonneg (Rat.mul_nonneg (by grind) (by grind)) yk
      grind
    · rw [cast_succ]
      grind
    · rw [cast_succ, Rat.pow_succ y]
      grind
    · rw [cast_succ, Rat.pow_succ y]
      grind
theorem inv_mul (k : Nat) : ((k : Rat) + 1)⁻¹ * ((k : Rat) + 1) = 1 := Rat.inv_mul_cancel _ (by have := cast_nn k; grind)
theorem inv_pos (k : Nat) : 0 ≤ ((k : Rat) + 1)⁻¹ := by
  have h := inv_mul k
  have K := cast_nn k
  rcases Rat.le_total (a := 0) (b := ((k : Rat) + 1)⁻¹) with h2 | h2
  · exact h2
  · have : 0 ≤ (-((k : Rat) + 1)⁻¹) * ((k : Rat) + 1) := Rat.mul_nonneg (by grind) (by grind)
    grind
/-- One power's slope. -/
theorem one_diff {y : Rat} (h0 : q ≤ y) (h1 : y ≤ 1) (a : Rat) (k : Nat) (hk : k ≤ 100) :
    2 * q * (a * y ^ k) - ab a * (((k : Rat) + 1) * ((k : Rat) + 1)) * (q * q * q) ≤ a / ((k : Rat) + 1) * ((y + q) ^ (k + 1) - (y - q) ^ (k + 1)) ∧
    a / ((k : Rat) + 1) * ((y + q) ^ (k + 1) - (y - q) ^ (k + 1)) ≤ 2 * q * (a * y ^ k) + ab a * (((k : Rat) + 1) * ((k : Rat) + 1)) * (q * q * q) := by
  obtain ⟨n0, n1⟩ := pw_next (pw h0 h1 k hk)
  have hi := inv_mul k
  have hp := inv_pos k
  have hq := q_pos
  have K := cast_nn k
  have q3 : 0 ≤ q * q * q := Rat.mul_nonneg (sq_nonneg q) (by grind)
  obtain ⟨a1, a2, a3⟩ := ab_bd a
  rw [Rat.div_def]
  generalize (y + q) ^ (k + 1) - (y - q) ^ (k + 1) = F at *
  generalize y ^ k = z at *
  generalize ((k : Rat) + 1)⁻¹ = i at *
  generalize (k : Rat) + 1 = m at *
  -- r: what is over
  obtain ⟨r, hr⟩ : ∃ r, F = 2 * m * q * z + r := ⟨F - 2 * m * q * z, by grind⟩
  have r0 : 0 ≤ r := by grind
  have r1 : r ≤ m * m * m * (q * q * q) := by grind
  have ir := mul_le r1 hp
  have ir0 : 0 ≤ r * i := Rat.mul_nonneg r0 hp
  have b1 := mul_le a1 ir0
  have b2 := mul_le a2 ir0
  have b3 := mul_le ir a3
  have e1 : m * m * m * (q * q * q) * i * ab a = ab a * (m * m) * (q * q * q) := by grind
  have e2 : a * i * F = 2 * q * (a * z) + a * (r * i) := by rw [hr]; grind
  rw [e2]
  constructor
  · grind
  · grind
theorem ev_diff {y : Rat} (h0 : q ≤ y) (h1 : y ≤ 1) (A : List Rat) : ∀ k : Nat, k + A.length ≤ 100 →
    2 * q * ev k A y - wt k A * (q * q * q) ≤ ev (k + 1) (integ k A) (y + q) - ev (k + 1) (integ k A) (y - q) ∧
    ev (k + 1) (integ k A) (y + q) - ev (k + 1) (integ k A) (y - q) ≤ 2 * q * ev k A y + wt k A * (q * q * q) := by
  induction A with
  | nil => intro k _; simp only [ev, integ, wt]; grind
  | cons a r ih =>
    intro k hk
    simp only [List.length_cons] at hk
    obtain ⟨i0, i1⟩ := ih (k + 1) (by omega)
    obtain ⟨o0, o1⟩ := one_diff h0 h1 a k (by omega)
    simp only [ev, integ, wt]
    constructor
    · grind
    · grind
theorem ev_zero (A : List Rat) : ∀ k : Nat, 1 ≤ k → ev k A 0 = 0 := by
  induction A with
  | nil => intro k _; rfl
  | cons a r ih =>
    intro k hk
    simp only [ev]
    rw [ih (k + 1) (by omega)]
    obtain ⟨j, rfl⟩ : ∃ j, k = j + 1 := ⟨k - 1, by omega⟩
    rw [Rat.pow_succ]
    grind
def e : Rat := 10 * (q * q)
/-- The slope's sum, a little more (or less) at its first place. -/
def up (A : List Rat) (t : Rat) : List Rat := match integ 0 A with | [] => [t] | a :: r => (a + t) :: r
theorem ev_up (A : List Rat) (t y : Rat) : ev 1 (up A t) y = ev 1 (integ 0 A) y + t * y := by
  unfold up
  cases integ 0 A with
  | nil => simp only [ev]; grind
  | cons a r => simp only [ev]; grind
def neg (A : List Rat) : List Rat := A.map fun a => -a
theorem ev_neg (A : List Rat) (y : Rat) : ∀ k, ev k (neg A) y = -ev k A y := by
  induction A with
  | nil => intro k; simp only [neg, List.map, ev]; grind
  | cons a r ih =>
    intro k
    have := ih (k + 1)
    simp only [neg, List.map, ev] at *
    rw [this]
    grind
def xx (n : Nat) : Rat := q * (n : Rat)
theorem xx_succ (n : Nat) : xx (n + 1) = xx n + q := by unfold xx; rw [cast_succ]; grind
theorem xx_ge (n : Nat) : q ≤ xx (n + 1) := by
  have h := Rat.mul_nonneg (show 0 ≤ q by have := q_pos; grind) (cast_nn n)
  rw [xx_succ]
  unfold xx
  grind
theorem xx0 : xx 0 = 0 := by unfold xx; simp
theorem xx1 : xx 1 = q := by unfold xx; simp
theorem slack {w : Rat} (hw : w ≤ 20) : w * (q * q * q) ≤ 2 * q * e := by
  have hq := q_pos
  have q3 : 0 ≤ q * q * q := Rat.mul_nonneg (sq_nonneg q) (by grind)
  have := mul_le hw q3
  unfold e
  grind
/-- By twos. -/
theorem twos {P : Nat → Prop} (h0 : P 0) (h1 : P 1) (h : ∀ n, P n → P (n + 2)) : ∀ n, P n ∧ P (n + 1) := by
  intro n
  induction n with
  | zero => exact ⟨h0, h1⟩
  | succ n ih => exact ⟨ih.2, h n ih.1⟩
theorem S_le {A : List Rat} (hl : A.length ≤ 100) (hw : wt 0 A ≤ 20) (hA : ∀ n, xx n ≤ 1 → c n ≤ ev 0 A (xx n)) (hb : q ≤ ev 1 (up A e) q) : ∀ n, xx n ≤ 1 → s n ≤ ev 1 (up A e) (xx n) := fun n => by
  refine (twos (P := fun n => xx n ≤ 1 → s n ≤ ev 1 (up A e) (xx n)) ?_ ?_ ?_ n).1
  · intro _
    rw [xx0, ev_zero _ _ (by omega), s0]
    grind
  · intro _
    rw [xx1, s1]
    exact hb
  · intro n ih hx
    have hq := q_pos
    have e1 := xx_succ n
    have e2 : xx (n + 2) = xx (n + 1) + q := xx_succ (n + 1)
    have e3 : xx (n + 1) - q = xx n := by grind
    have e5 : e * xx (n + 2) = e * xx n + 2 * q * e := by rw [e2, e1]; grind
    have d := (ev_diff (y := xx (n + 1)) (xx_ge n) (by grind) A 0 (by omega)).1
    have i := ih (by grind)
    have cc := mul_le (hA (n + 1) (by grind)) (x := 2 * q) (by grind)
    have sl := slack hw
    rw [dS, ev_up]
    rw [ev_up] at i
    rw [e3, ← e2] at d
    clear hA ih hb hw hl hx e1 e2 e3
    grind
theorem S_ge {A : List Rat} (hl : A.length ≤ 100) (hw : wt 0 A ≤ 20) (hA : ∀ n, xx n ≤ 1 → ev 0 A (xx n) ≤ c n) (hb : ev 1 (up A (-e)) q ≤ q) : ∀ n, xx n ≤ 1 → ev 1 (up A (-e)) (xx n) ≤ s n := fun n => by
  refine (twos (P := fun n => xx n ≤ 1 → ev 1 (up A (-e)) (xx n) ≤ s n) ?_ ?_ ?_ n).1
  · intro _
    rw [xx0, ev_zero _ _ (by omega), s0]
    grind
  · intro _
    rw [xx1, s1]
    exact hb
  · intro n ih hx
    have hq := q_pos
    have e1 := xx_succ n
    have e2 : xx (n + 2) = xx (n + 1) + q := xx_succ (n + 1)
    have e3 : xx (n + 1) - q = xx n := by grind
    have e5 : e * xx (n + 2) = e * xx n + 2 * q * e := by rw [e2, e1]; grind
    have d := (ev_diff (y := xx (n + 1)) (xx_ge n) (by grind) A 0 (by omega)).2
    have i := ih (by grind)
    have cc := mul_le (hA (n + 1) (by grind)) (x := 2 * q) (by grind)
    have sl := slack hw
    rw [dS, ev_up]
    rw [ev_up] at i
    rw [e3, ← e2] at d
    clear hA ih hb hw hl hx e1 e2 e3
    grind
theorem C_ge {B : List Rat} (hl : B.length ≤ 100) (hw : wt 0 B ≤ 20) (hB : ∀ n, xx n ≤ 1 → s n ≤ ev 0 B (xx n)) (hb : 1 - ev 1 (up B e) q ≤ p) : ∀ n, xx n ≤ 1 → 1 - ev 1 (up B e) (xx n) ≤ c n := fun n => by
  refine (twos (P := fun n => xx n ≤ 1 → 1 - ev 1 (up B e) (xx n) ≤ c n) ?_ ?_ ?_ n).1
  · intro _
    rw [xx0, ev_zero _ _ (by omega), c0]
    grind
  · intro _
    rw [xx1, c1]
    exact hb
  · intro n ih hx
    have hq := q_pos
    have e1 := xx_succ n
    have e2 : xx (n + 2) = xx (n + 1) + q := xx_succ (n + 1)
    have e3 : xx (n + 1) - q = xx n := by grind
    have e5 : e * xx (n + 2) = e * xx n + 2 * q * e := by rw [e2, e1]; grind
    have d := (ev_diff (y := xx (n + 1)) (xx_ge n) (by grind) B 0 (by omega)).1
    have i := ih (by grind)
    have cc := mul_le (hB (n + 1) (by grind)) (x := 2 * q) (by grind)
    have sl := slack hw
    rw [dC, ev_up]
    rw [ev_up] at i
    rw [e3, ← e2] at d
    clear hB ih hb hw hl hx e1 e2 e3
    grind
theorem C_le {B : List Rat} (hl : B.length ≤ 100) (hw : wt 0 B ≤ 20) (hB : ∀ n, xx n ≤ 1 → ev 0 B (xx n) ≤ s n) (hb : p ≤ 1 - ev 1 (up B (-e)) q) : ∀ n, xx n ≤ 1 → c n ≤ 1 - ev 1 (up B (-e)) (xx n) := fun n => by
  refine (twos (P := fun n => xx n ≤ 1 → c n ≤ 1 - ev 1 (up B (-e)) (xx n)) ?_ ?_ ?_ n).1
  · intro _
    rw [xx0, ev_zero _ _ (by omega), c0]
    grind
  · intro _
    rw [xx1, c1]
    exact hb
  · intro n ih hx
    have hq := q_pos
    have e1 := xx_succ n
    have e2 : xx (n + 2) = xx (n + 1) + q := xx_succ (n + 1)
    have e3 : xx (n + 1) - q = xx n := by grind
    have e5 : e * xx (n + 2) = e * xx n + 2 * q * e := by rw [e2, e1]; grind
    have d := (ev_diff (y := xx (n + 1)) (xx_ge n) (by grind) B 0 (by omega)).2
    have i := ih (by grind)
    have cc := mul_le (hB (n + 1) (by grind)) (x := 2 * q) (by grind)
    have sl := slack hw
    rw [dC, ev_up]
    rw [ev_up] at i
    rw [e3, ← e2] at d
    clear hB ih hb hw hl hx e1 e2 e3
    grind
/-! ### the rows -/
def sR (B : List Rat) : List Rat := 0 :: B
def cR (D : List Rat) : List Rat := 1 :: neg D
theorem ev_sR (B : List Rat) (y : Rat) : ev 0 (sR B) y = ev 1 B y := by simp only [sR, ev]; grind
theorem ev_cR (D : List Rat) (y : Rat) : ev 0 (cR D) y = 1 - ev 1 D y := by simp only [cR, ev, ev_neg, Rat.pow_zero]; grind
/-- The bounds, one behind the other: a cosine's bound above, a sine's above, a cosine's below, a sine's below, .. -/
def A0 : List Rat := [1]
def B1 : List Rat := sR (up A0 e)
def A2 : List Rat := cR (up B1 e)
def B3 : List Rat := sR (up A2 (-e))
def A4 : List Rat := cR (up B3 (-e))
def B5 : List Rat := sR (up A4 e)
def A6 : List Rat := cR (up B5 e)
def B7 : List Rat := sR (up A6 (-e))
def A8 : List Rat := cR (up B7 (-e))
def B9 : List Rat := sR (up A8 e)
def A10 : List Rat := cR (up B9 e)
def B11 : List Rat := sR (up A10 (-e))
def A12 : List Rat := cR (up B11 (-e))
def B13 : List Rat := sR (up A12 e)
def A14 : List Rat := cR (up B13 e)
def B15 : List Rat := sR (up A14 (-e))
def A16 : List Rat := cR (up B15 (-e))
def B17 : List Rat := sR (up A16 e)
theorem a0 : ∀ n, xx n ≤ 1 → c n ≤ ev 0 A0 (xx n) := fun n _ => by
  have := c_le n
  simp only [A0, ev, Rat.pow_zero]
  grind
theorem b1 : ∀ n, xx n ≤ 1 → s n ≤ ev 0 B1 (xx n) := fun n h => by rw [B1, ev_sR]; exact S_le (by decide +kernel) (by decide +kernel) a0 (by decide +kernel) n h
theorem a2 : ∀ n, xx n ≤ 1 → ev 0 A2 (xx n) ≤ c n := fun n h => by rw [A2, ev_cR]; exact C_ge (by decide +kernel) (by decide +kernel) b1 (by decide +kernel) n h
theorem b3 : ∀ n, xx n ≤ 1 → ev 0 B3 (xx n) ≤ s n := fun n h => by rw [B3, ev_sR]; exact S_ge (by decide +kernel) (by decide +kernel) a2 (by decide +kernel) n h
theorem a4 : ∀ n, xx n ≤ 1 → c n ≤ ev 0 A4 (xx n) := fun n h => by rw [A4, ev_cR]; exact C_le (by decide +kernel) (by decide +kernel) b3 (by decide +kernel) n h
theorem b5 : ∀ n, xx n ≤ 1 → s n ≤ ev 0 B5 (xx n) := fun n h => by rw [B5, ev_sR]; exact S_le (by decide +kernel) (by decide +kernel) a4 (by decide +kernel) n h
theorem a6 : ∀ n, xx n ≤ 1 → ev 0 A6 (xx n) ≤ c n := fun n h => by rw [A6, ev_cR]; exact C_ge (by decide +kernel) (by decide +kernel) b5 (by decide +kernel) n h
theorem b7 : ∀ n, xx n ≤ 1 → ev 0 B7 (xx n) ≤ s n := fun n h => by rw [B7, ev_sR]; exact S_ge (by decide +kernel) (by decide +kernel) a6 (by decide +kernel) n h
theorem a8 : ∀ n, xx n ≤ 1 → c n ≤ ev 0 A8 (xx n) := fun n h => by rw [A8, ev_cR]; exact C_le (by decide +kernel) (by decide +kernel) b7 (by decide +kernel) n h
theorem b9 : ∀ n, xx n ≤ 1 → s n ≤ ev 0 B9 (xx n) := fun n h => by rw [B9, ev_sR]; exact S_le (by decide +kernel) (by decide +kernel) a8 (by decide +kernel) n h
theorem a10 : ∀ n, xx n ≤ 1 → ev 0 A10 (xx n) ≤ c n := fun n h => by rw [A10, ev_cR]; exact C_ge (by decide +kernel) (by decide +kernel) b9 (by decide +kernel) n h
theorem b11 : ∀ n, xx n ≤ 1 → ev 0 B11 (xx n) ≤ s n := fun n h => by rw [B11, ev_sR]; exact S_ge (by decide +kernel) (by decide +kernel) a10 (by decide +kernel) n h
theorem a12 : ∀ n, xx n ≤ 1 → c n ≤ ev 0 A12 (xx n) := fun n h => by rw [A12, ev_cR]; exact C_le (by decide +kernel) (by decide +kernel) b11 (by decide +kernel) n h
theorem b13 : ∀ n, xx n ≤ 1 → s n ≤ ev 0 B13 (xx n) := fun n h => by rw [B13, ev_sR]; exact S_le (by decide +kernel) (by decide +kernel) a12 (by decide +kernel) n h
theorem a14 : ∀ n, xx n ≤ 1 → ev 0 A14 (xx n) ≤ c n := fun n h => by rw [A14, ev_cR]; exact C_ge (by decide +kernel) (by decide +kernel) b13 (by decide +kernel) n h
theorem b15 : ∀ n, xx n ≤ 1 → ev 0 B15 (xx n) ≤ s n := fun n h => by rw [B15, ev_sR]; exact S_ge (by decide +kernel) (by decide +kernel) a14 (by decide +kernel) n h
theorem a16 : ∀ n, xx n ≤ 1 → c n ≤ ev 0 A16 (xx n) := fun n h => by rw [A16, ev_cR]; exact C_le (by decide +kernel) (by decide +kernel) b15 (by decide +kernel) n h
theorem b17 : ∀ n, xx n ≤ 1 → s n ≤ ev 0 B17 (xx n) := fun n h => by rw [B17, ev_sR]; exact S_le (by decide +kernel) (by decide +kernel) a16 (by decide +kernel) n h
end TS
end Go.Proofs.Ytlkompbigpbefab
namespace Go.Proofs.Ytlkompbigpbefab
set_option linter.unusedVariables false
namespace SI
open TS (mul_le sq_nonneg)
/-! ### the row, as both sides reckon it -/
def tD (a b : Int) : Int := NM.down (a * b) 1000000000
def tU (a b : Int) : Int := NM.up (a * b) 1000000000
def row : Nat → Int → Int → Int → Int → Bool → Int → Int → Int × Int
  | 0, low, high, _, _, _, _, _ => (low, high)
  | f + 1, low, high, d, u, less, x, n =>
    if 0 < u ∧ n < 40 then
      if NM.up (tU u (tU x x)) (n * (n + 1)) = 1 ∧ NM.down (tD d (tD x x)) (n * (n + 1)) = 0 then (low - 1, high + 1)
      else match less with
        | true => row f (low - NM.up (tU u (tU x x)) (n * (n + 1))) (high - NM.down (tD d (tD x x)) (n * (n + 1))) (NM.down (tD d (tD x x)) (n * (n + 1))) (NM.up (tU u (tU x x)) (n * (n + 1))) false x (n + 2)
        | false => row f (low + NM.down (tD d (tD x x)) (n * (n + 1))) (high + NM.up (tU u (tU x x)) (n * (n + 1))) (NM.down (tD d (tD x x)) (n * (n + 1))) (NM.up (tU u (tU x x)) (n * (n + 1))) true x (n + 2)
    else (low, high)
/-! ### as it truly is -/
def al (r : Rat) : Nat → Rat → Int → Rat
  | 0, T, _ => T
  | J + 1, T, n => T - al r J (T * r / ((n * (n + 1) : Int) : Rat)) (n + 2)
theorem inv_nn {m : Rat} (h : 1 ≤ m) : 0 ≤ m⁻¹ ∧ m⁻¹ * m = 1 ∧ m⁻¹ ≤ 1 := by
  have h1 : m⁻¹ * m = 1 := Rat.inv_mul_cancel _ (by grind)
  have h2 : 0 ≤ m⁻¹ := by
    rcases Rat.le_total (a := 0) (b := m⁻¹) with h2 | h2
    · exact h2
    · have : 0 ≤ (-m⁻¹) * m := Rat.mul_nonneg (by grind) (by grind)
      grind
  refine ⟨h2, h1, ?_⟩
  have := Rat.mul_nonneg h2 (show 0 ≤ m - 1 by grind)
  grind
theorem cast_ge {a b : Int} (h : a ≤ b) : (a : Rat) ≤ (b : Rat) := by exact_mod_cast h
theorem mm_ge {n : Int} (h : 1 ≤ n) : (2 : Rat) ≤ ((n * (n + 1) : Int) : Rat) := by
  have : (2 : Int) ≤ n * (n + 1) := by
    have := Int.mul_le_mul h (show 2 ≤ n + 1 by omega) (by omega) (by omega)
    omega
  have := cast_ge this
  simpa using this
/-- The next term. -/
theorem next_bd {T r : Rat} {n : Int} (hT : 0 ≤ T) (r0 : 0 ≤ r) (r1 : r ≤ 1) (hn : 1 ≤ n) : 0 ≤ T * r / ((n * (n + 1) : Int) : Rat) ∧ T * r / ((n * (n + 1) : Int) : Rat) ≤ T ∧ T * r / ((n * (n + 1) : Int) : Rat) * ((n * (n + 1) : Int) : Rat) = T * r := by
  have m2 := mm_ge hn
  generalize ((n * (n + 1) : Int) : Rat) = m at *
  obtain ⟨i0, i1, i2⟩ := inv_nn (m := m) (by grind)
  have t0 := Rat.mul_nonneg hT r0
  have t1 := mul_le r1 hT
  rw [Rat.div_def]
  refine ⟨Rat.mul_nonneg t0 i0, ?_, by grind⟩
  have := mul_le i2 t0
  grind
theorem al_bd {r : Rat} (r0 : 0 ≤ r) (r1 : r ≤ 1) : ∀ (J : Nat) (T : Rat) (n : Int), 0 ≤ T → 1 ≤ n → 0 ≤ al r J T n ∧ al r J T n ≤ T := by
  intro J
  induction J with
  | zero => intro T n hT _; exact ⟨hT, by simp only [al]; grind⟩
  | succ J ih =>
    intro T n hT hn
    obtain ⟨n0, n1, _⟩ := next_bd hT r0 r1 hn
    have := ih _ (n + 2) n0 (by omega)
    simp only [al]
    grind
theorem down_bd (a : Int) {m : Int} (h : 0 < m) : (NM.down a m : Rat) * (m : Rat) ≤ (a : Rat) ∧ (a : Rat) ≤ (NM.down a m : Rat) * (m : Rat) + (m : Rat) := by
  have e := Int.mul_ediv_add_emod a m
  have h1 := Int.emod_nonneg a (show m ≠ 0 by omega)
  have h2 := Int.emod_lt_of_pos a h
  unfold NM.down
  constructor
  · have : (a / m) * m ≤ a := by rw [Int.mul_comm]; omega
    exact_mod_cast this
  · have : a ≤ (a / m) * m + m := by rw [Int.mul_comm]; omega
    exact_mod_cast this
theorem up_bd (a : Int) {m : Int} (h : 0 < m) : (a : Rat) ≤ (NM.up a m : Rat) * (m : Rat) ∧ (NM.up a m : Rat) * (m : Rat) ≤ (a : Rat) + (m : Rat) := by
  have e := Int.mul_ediv_add_emod (-a) m
  have h1 := Int.emod_nonneg (-a) (show m ≠ 0 by omega)
  have h2 := Int.emod_lt_of_pos (-a) h
  unfold NM.up
  constructor
  · have : a ≤ (-((-a) / m)) * m := by rw [Int.neg_mul, Int.mul_comm]; omega
    exact_mod_cast this
  · have : (-((-a) / m)) * m ≤ a + m := by rw [Int.neg_mul, Int.mul_comm]; omega
    exact_mod_cast this
theorem le_of_mul {a b m : Rat} (hm : 0 < m) (h : a * m ≤ b * m) : a ≤ b := by
  rcases Rat.le_total (a := a) (b := b) with h2 | h2
  · exact h2
  · have := mul_le h2 (x := m) (by grind)
    have e : (a - b) * m = 0 := by grind
    rcases Rat.mul_eq_zero.1 e with h3 | h3
    · grind
    · grind
theorem cast_mul (a b : Int) : ((a * b : Int) : Rat) = (a : Rat) * (b : Rat) := by push_cast; rfl
theorem unitc : ((1000000000 : Int) : Rat) = 1000000000 := rfl
theorem nn_down {a m : Int} (h : 0 ≤ a) (hm : 0 < m) : 0 ≤ NM.down a m := Int.ediv_nonneg h (by omega)
theorem mm_pos {n : Int} (h : 1 ≤ n) : 0 < n * (n + 1) := Int.mul_pos (by omega) (by omega)
theorem dn_step {T r : Rat} {d x n : Int} (x0 : 0 ≤ x) (h0 : 0 ≤ d) (hd : (d : Rat) ≤ T) (hd3 : T ≤ (d : Rat) + 3) (hdu : d ≤ 1000000000) (hr : r * 1000000000000000000 = (x : Rat) * (x : Rat)) (r0 : 0 ≤ r) (r1 : r ≤ 62 / 100) (hn : 1 ≤ n) :
    0 ≤ NM.down (tD d (tD x x)) (n * (n + 1)) ∧ (NM.down (tD d (tD x x)) (n * (n + 1)) : Rat) ≤ T * r / ((n * (n + 1) : Int) : Rat) ∧ T * r / ((n * (n + 1) : Int) : Rat) ≤ (NM.down (tD d (tD x x)) (n * (n + 1)) : Rat) + 3 := by
  have m2 := mm_ge hn
  have mp := mm_pos hn
  have X0 : 0 ≤ tD x x := nn_down (Int.mul_nonneg x0 x0) (by decide)
  have D0 : 0 ≤ tD d (tD x x) := nn_down (Int.mul_nonneg h0 X0) (by decide)
  have dd := cast_ge h0
  have du := cast_ge hdu
  obtain ⟨a1, a2⟩ := down_bd (x * x) (m := 1000000000) (by decide)
  obtain ⟨b1, b2⟩ := down_bd (d * tD x x) (m := 1000000000) (by decide)
  obtain ⟨c1, c2⟩ := down_bd (tD d (tD x x)) mp
  have X0' := cast_ge X0
  rw [cast_mul, unitc] at a1 a2 b1 b2
  change (tD x x : Rat) * 1000000000 ≤ _ at a1
  change _ ≤ (tD x x : Rat) * 1000000000 + _ at a2
  change (tD d (tD x x) : Rat) * 1000000000 ≤ _ at b1
  change _ ≤ (tD d (tD x x) : Rat) * 1000000000 + _ at b2
  refine ⟨nn_down D0 mp, ?_⟩
  obtain ⟨_, _, hT⟩ := next_bd (T := T) (r := r) (n := n) (by grind) r0 (by grind) hn
  generalize T * r / ((n * (n + 1) : Int) : Rat) = T' at *
  generalize (NM.down (tD d (tD x x)) (n * (n + 1)) : Rat) = D2 at *
  generalize ((n * (n + 1) : Int) : Rat) = m at *
  generalize (tD d (tD x x) : Rat) = D1 at *
  generalize (tD x x : Rat) = X at *
  generalize (d : Rat) = dr at *
  have e1 : X ≤ r * 1000000000 := by grind
  have e2 : r * 1000000000 ≤ X + 1 := by grind
  have f1 := mul_le e1 (x := dr) (by grind)
  have f2 := mul_le e2 (x := dr) (by grind)
  have g1 := mul_le hd r0
  have g2 := mul_le hd3 r0
  constructor
  · refine le_of_mul (m := m) (by grind) ?_
    grind
  · refine le_of_mul (m := m) (by grind) ?_
    grind
theorem up_step {T r : Rat} {u x n : Int} (h0 : 0 ≤ u) (T0 : 0 ≤ T) (hu : T ≤ (u : Rat)) (hu3 : (u : Rat) ≤ T + 3) (huu : u ≤ 1000000000) (hr : r * 1000000000000000000 = (x : Rat) * (x : Rat)) (r0 : 0 ≤ r) (r1 : r ≤ 62 / 100) (hn : 1 ≤ n) :
    T * r / ((n * (n + 1) : Int) : Rat) ≤ (NM.up (tU u (tU x x)) (n * (n + 1)) : Rat) ∧ (NM.up (tU u (tU x x)) (n * (n + 1)) : Rat) ≤ T * r / ((n * (n + 1) : Int) : Rat) + 3 := by
  have m2 := mm_ge hn
  have mp := mm_pos hn
  have dd := cast_ge h0
  have du := cast_ge huu
  obtain ⟨a1, a2⟩ := up_bd (x * x) (m := 1000000000) (by decide)
  obtain ⟨b1, b2⟩ := up_bd (u * tU x x) (m := 1000000000) (by decide)
  obtain ⟨c1, c2⟩ := up_bd (tU u (tU x x)) mp
  rw [cast_mul, unitc] at a1 a2 b1 b2
  change _ ≤ (tU x x : Rat) * 1000000000 at a1
  change (tU x x : Rat) * 1000000000 ≤ _ at a2
  change _ ≤ (tU u (tU x x) : Rat) * 1000000000 at b1
  change (tU u (tU x x) : Rat) * 1000000000 ≤ _ at b2
  obtain ⟨_, _, hT⟩ := next_bd (T := T) (r := r) (n := n) T0 r0 (by grind) hn
  generalize T * r / ((n * (n + 1) : Int) : Rat) = T' at *
  generalize (NM.up (tU u (tU x x)) (n * (n + 1)) : Rat) = D2 at *
  generalize ((n * (n + 1) : Int) : Rat) = m at *
  generalize (tU u (tU x x) : Rat) = D1 at *
  generalize (tU x x : Rat) = X at *
  generalize (u : Rat) = dr at *
  have e1 : r * 1000000000 ≤ X := by grind
  have e2 : X ≤ r * 1000000000 + 1 := by grind
  have f1 := mul_le e1 (x := dr) (by grind)
  have f2 := mul_le e2 (x := dr) (by grind)
  have g1 := mul_le hu r0
  have g2 := mul_le hu3 r0
  constructor
  · refine le_of_mul (m := m) (by grind) ?_
    grind
  · refine le_of_mul (m := m) (by grind) ?_
    grind
theorem up_mono {a b m : Int} (h : a ≤ b) (hm : 0 < m) : NM.up a m ≤ NM.up b m := by
  unfold NM.up
  have := Int.ediv_le_ediv hm (show -b ≤ -a by omega)
  omega
theorem up_self {a b : Int} (h : a ≤ b * 1000000000) : NM.up a 1000000000 ≤ b := by
  unfold NM.up
  omega
theorem up_lim {u x n U : Int} (x0 : 0 ≤ x) (x1 : x ≤ 1000000000) (h0 : 0 ≤ u) (hU : u ≤ U) (hn : 1 ≤ n) : NM.up (tU u (tU x x)) (n * (n + 1)) ≤ NM.up U (n * (n + 1)) := by
  refine up_mono ?_ (mm_pos hn)
  have hX : tU x x ≤ 1000000000 := by
    refine up_self ?_
    have := Int.mul_le_mul x1 x1 x0 (by decide)
    omega
  have : tU u (tU x x) ≤ u := by
    refine up_self ?_
    exact Int.mul_le_mul_of_nonneg_left hX h0
  omega
def chain : Nat → Int → Int → Bool
  | 0, n, U => decide (n < 40) && (decide (U ≤ 1000000000) && decide (U ≤ n * (n + 1)))
  | k + 1, n, U => decide (n < 40) && (decide (U ≤ 1000000000) && chain k (n + 2) (NM.up U (n * (n + 1))))
/-- Where the row leads. -/
def goal (r : Rat) (J : Nat) (less : Bool) (T Z : Rat) (n : Int) : Rat := match less with
  | true => Z - al r J (T * r / ((n * (n + 1) : Int) : Rat)) (n + 2)
  | false => Z + al r J (T * r / ((n * (n + 1) : Int) : Rat)) (n + 2)
theorem cast_lt {a b : Int} (h : (a : Rat) ≤ (b : Rat)) : a ≤ b := by exact_mod_cast h
theorem cast_sub (a b : Int) : ((a - b : Int) : Rat) = (a : Rat) - (b : Rat) := by push_cast; rfl
theorem cast_add (a b : Int) : ((a + b : Int) : Rat) = (a : Rat) + (b : Rat) := by push_cast; rfl
theorem up_one {U m : Int} (hm : 0 < m) (h : U ≤ m) : NM.up U m ≤ 1 := by
  have := up_mono h hm
  have e : NM.up m m = 1 := by
    unfold NM.up
    rw [Int.neg_ediv_self m (by omega)]
    rfl
  omega
theorem row_end {f : Nat} {low high d u x n : Int} {less : Bool} (h : u ≤ 0) : row f low high d u less x n = (low, high) := by
  cases f with
  | zero => rfl
  | succ f => simp only [row]; rw [if_neg (by omega)]
theorem four {low high Z d u T W : Rat} (z1 : low ≤ Z) (z2 : Z ≤ high) (z3 : Z ≤ low + W) (z4 : high ≤ Z + W) (a1 : d ≤ T) (a2 : T ≤ d + 3) (b1 : T ≤ u) (b2 : u ≤ T + 3) :
    (low + d ≤ Z + T ∧ Z + T ≤ high + u ∧ Z + T ≤ low + d + (W + 3) ∧ high + u ≤ Z + T + (W + 3)) ∧ low - u ≤ Z - T ∧ Z - T ≤ high - d ∧ Z - T ≤ low - u + (W + 3) ∧ high - d ≤ Z - T + (W + 3) := by
  refine ⟨⟨?_, ?_, ?_, ?_⟩, ?_, ?_, ?_, ?_⟩ <;> grind
set_option maxHeartbeats 4000000 in
theorem enc {x : Int} {r : Rat} (x0 : 0 ≤ x) (x1 : x ≤ 1000000000) (hr : r * 1000000000000000000 = (x : Rat) * (x : Rat)) (r0 : 0 ≤ r) (r1 : r ≤ 62 / 100) :
    ∀ (k f J : Nat) (n U low high d u : Int) (less : Bool) (T Z W : Rat), 1 ≤ n → chain k n U = true → k < f → k ≤ J → 0 ≤ d → (d : Rat) ≤ T → T ≤ (d : Rat) + 3 → T ≤ (u : Rat) → (u : Rat) ≤ T + 3 → u ≤ U →
      (low : Rat) ≤ Z → Z ≤ (high : Rat) → Z ≤ (low : Rat) + W → (high : Rat) ≤ Z + W →
      ((row f low high d u less x n).1 : Rat) ≤ goal r J less T Z n ∧ goal r J less T Z n ≤ ((row f low high d u less x n).2 : Rat) ∧
      goal r J less T Z n ≤ ((row f low high d u less x n).1 : Rat) + (W + 3 * (k : Rat) + 5) ∧ ((row f low high d u less x n).2 : Rat) ≤ goal r J less T Z n + (W + 3 * (k : Rat) + 5) := by
  intro k
  induction k with
  | zero =>
    intro f J n U low high d u less T Z W hn hc hf hJ d0 h1 h2 h3 h4 hU z1 z2 z3 z4
    simp only [chain, Bool.and_eq_true, decide_eq_true_eq] at hc
    obtain ⟨n40, U9, Um⟩ := hc
    have dd := cast_ge d0
    have T0 : 0 ≤ T := by grind
    obtain ⟨t0, _, tm⟩ := next_bd T0 r0 (by grind) hn
    obtain ⟨l0, l1⟩ := al_bd r0 (by grind) J _ (n + 2) t0 (by omega)
    obtain ⟨f, rfl⟩ : ∃ g, f = g + 1 := ⟨f - 1, by omega⟩
    by_cases hu : 0 < u
    · have u0 : 0 ≤ u := by omega
      have du : d ≤ u := cast_lt (by grind)
      obtain ⟨a0, a1, a2⟩ := dn_step (T := T) (r := r) (d := d) (x := x) (n := n) x0 d0 h1 h2 (by omega) hr r0 r1 hn
      obtain ⟨b1, b2⟩ := up_step (T := T) (r := r) (u := u) (x := x) (n := n) u0 T0 h3 h4 (by omega) hr r0 r1 hn
      have lim := up_lim (u := u) (x := x) (n := n) (U := U) x0 x1 u0 hU hn
      have one := up_one (mm_pos hn) Um
      have m2 := mm_ge hn
      have T1 : T * r / ((n * (n + 1) : Int) : Rat) < 1 := by
        have hm := cast_ge Um
        have hu' := cast_ge hU
        have g1 := mul_le (show T ≤ ((n * (n + 1) : Int) : Rat) by grind) r0
        have g2 := mul_le r1 (x := ((n * (n + 1) : Int) : Rat)) (by grind)
        generalize T * r / ((n * (n + 1) : Int) : Rat) = T' at *
        generalize ((n * (n + 1) : Int) : Rat) = m at *
        rcases Rat.le_total (a := 1) (b := T') with h | h
        · have := mul_le h (x := m) (by grind)
          grind
        · have : T' ≠ 1 := by
            intro c
            subst c
            grind
          grind
      simp only [row]
      rw [if_pos ⟨hu, n40⟩]
      by_cases hx : NM.up (tU u (tU x x)) (n * (n + 1)) = 1 ∧ NM.down (tD d (tD x x)) (n * (n + 1)) = 0
      · rw [if_pos hx]
        simp only [cast_sub, cast_add]
        unfold goal
        cases less
        · simp only []; grind
        · simp only []; grind
      · rw [if_neg hx]
        have d1 : NM.down (tD d (tD x x)) (n * (n + 1)) = 0 := by
          have : ¬ (1 : Int) ≤ NM.down (tD d (tD x x)) (n * (n + 1)) := fun c => by
            have := cast_ge c
            grind
          omega
        have u1 : NM.up (tU u (tU x x)) (n * (n + 1)) ≤ 0 := by
          have : NM.up (tU u (tU x x)) (n * (n + 1)) ≠ 1 := fun c => hx ⟨c, d1⟩
          omega
        have u2 := cast_ge u1
        have tz : T * r / ((n * (n + 1) : Int) : Rat) = 0 := by grind
        have uz : NM.up (tU u (tU x x)) (n * (n + 1)) = 0 := by
          have : (0 : Int) ≤ NM.up (tU u (tU x x)) (n * (n + 1)) := cast_lt (by grind)
          omega
        unfold goal
        cases less
        · simp only []
          rw [row_end u1, d1, uz]
          simp only [Int.add_zero]
          grind
        · simp only []
          rw [row_end u1, d1, uz]
          simp only [Int.sub_zero]
          grind
    · rw [row_end (by omega)]
      have u2 := cast_ge (show u ≤ 0 by omega)
      have tz : T = 0 := by grind
      have tz2 : T * r / ((n * (n + 1) : Int) : Rat) = 0 := by rw [tz, Rat.div_def]; grind
      unfold goal
      cases less
      · simp only []; grind
      · simp only []; grind
  | succ k ih =>
    intro f J n U low high d u less T Z W hn hc hf hJ d0 h1 h2 h3 h4 hU z1 z2 z3 z4
    simp only [chain, Bool.and_eq_true, decide_eq_true_eq] at hc
    obtain ⟨n40, U9, hc⟩ := hc
    have dd := cast_ge d0
    have T0 : 0 ≤ T := by grind
    obtain ⟨t0, _, tm⟩ := next_bd T0 r0 (by grind) hn
    obtain ⟨l0, l1⟩ := al_bd r0 (by grind) J _ (n + 2) t0 (by omega)
    obtain ⟨f, rfl⟩ : ∃ g, f = g + 1 := ⟨f - 1, by omega⟩
    have K := TS.cast_nn k
    have ks := TS.cast_succ k
    by_cases hu : 0 < u
    · have u0 : 0 ≤ u := by omega
      have du : d ≤ u := cast_lt (by grind)
      obtain ⟨a0, a1, a2⟩ := dn_step (T := T) (r := r) (d := d) (x := x) (n := n) x0 d0 h1 h2 (by omega) hr r0 r1 hn
      obtain ⟨b1, b2⟩ := up_step (T := T) (r := r) (u := u) (x := x) (n := n) u0 T0 h3 h4 (by omega) hr r0 r1 hn
      have lim := up_lim (u := u) (x := x) (n := n) (U := U) x0 x1 u0 hU hn
      obtain ⟨J, rfl⟩ : ∃ g, J = g + 1 := ⟨J - 1, by omega⟩
      simp only [row]
      rw [if_pos ⟨hu, n40⟩]
      by_cases hx : NM.up (tU u (tU x x)) (n * (n + 1)) = 1 ∧ NM.down (tD d (tD x x)) (n * (n + 1)) = 0
      · rw [if_pos hx]
        have hx1 : (NM.up (tU u (tU x x)) (n * (n + 1)) : Rat) = 1 := by rw [hx.1]; rfl
        simp only [cast_sub, cast_add]
        unfold goal
        cases less
        · simp only []; grind
        · simp only []; grind
      · rw [if_neg hx]
        clear hx l0 l1
        obtain ⟨⟨y1, y2, y3, y4⟩, y5, y6, y7, y8⟩ := four z1 z2 z3 z4 a1 a2 b1 b2
        have eW : W + 3 + 3 * (k : Rat) + 5 = W + 3 * ((k + 1 : Nat) : Rat) + 5 := by rw [ks]; grind
        cases less
        · have := ih f J (n + 2) _ (low + NM.down (tD d (tD x x)) (n * (n + 1))) (high + NM.up (tU u (tU x x)) (n * (n + 1))) _ _ true (T * r / ((n * (n + 1) : Int) : Rat)) (Z + T * r / ((n * (n + 1) : Int) : Rat)) (W + 3) (by omega) hc (by omega) (by omega) a0 a1 a2 b1 b2 lim (by rw [cast_add]; exact y1) (by rw [cast_add]; exact y2) (by rw [cast_add]; exact y3) (by rw [cast_add]; exact y4)
          have g : goal r (J + 1) false T Z n = goal r J true (T * r / ((n * (n + 1) : Int) : Rat)) (Z + T * r / ((n * (n + 1) : Int) : Rat)) (n + 2) := by
            clear this y1 y2 y3 y4 y5 y6 y7 y8 ih
            simp only [goal, al]
            grind
          rw [g]
          rw [eW] at this
          exact this
        · have := ih f J (n + 2) _ (low - NM.up (tU u (tU x x)) (n * (n + 1))) (high - NM.down (tD d (tD x x)) (n * (n + 1))) _ _ false (T * r / ((n * (n + 1) : Int) : Rat)) (Z - T * r / ((n * (n + 1) : Int) : Rat)) (W + 3) (by omega) hc (by omega) (by omega) a0 a1 a2 b1 b2 lim (by rw [cast_sub]; exact y5) (by rw [cast_sub]; exact y6) (by rw [cast_sub]; exact y7) (by rw [cast_sub]; exact y8)
          have g : goal r (J + 1) true T Z n = goal r J false (T * r / ((n * (n + 1) : Int) : Rat)) (Z - T * r / ((n * (n + 1) : Int) : Rat)) (n + 2) := by
            clear this y1 y2 y3 y4 y5 y6 y7 y8 ih
            simp only [goal, al]
            grind
          rw [g]
          rw [eW] at this
          exact this
    · rw [row_end (by omega)]
      have u2 := cast_ge (show u ≤ 0 by omega)
      have tz : T = 0 := by grind
      have tz2 : T * r / ((n * (n + 1) : Int) : Rat) = 0 := by rw [tz, Rat.div_def]; grind
      unfold goal
      cases less
      · simp only []; grind
      · simp only []; grind
end SI
end Go.Proofs.Ytlkompbigpbefab
namespace Go.Proofs.Ytlkompbigpbefab
set_option linter.unusedVariables false
namespace SI
open TS (mul_le sq_nonneg ev neg ab ab_bd q c s xx)
/-! ### rows, as sums of powers -/
def lst : Nat → Rat → Int → List Rat
  | 0, a, _ => [a]
  | J + 1, a, n => a :: 0 :: neg (lst J (a / ((n * (n + 1) : Int) : Rat)) (n + 2))
theorem al_lst (y : Rat) : ∀ (J : Nat) (a : Rat) (k : Nat) (n : Int), al (y * y) J (a * y ^ k) n = ev k (lst J a n) y := by
  intro J
  induction J with
  | zero => intro a k n; simp only [al, lst, ev]; grind
  | succ J ih =>
    intro a k n
    have e : a * y ^ k * (y * y) / ((n * (n + 1) : Int) : Rat) = a / ((n * (n + 1) : Int) : Rat) * y ^ (k + 2) := by
      rw [Rat.pow_succ, Rat.pow_succ, Rat.div_def, Rat.div_def]
      grind
    have := ih (a / ((n * (n + 1) : Int) : Rat)) (k + 2) (n + 2)
    simp only [al, lst, ev, TS.ev_neg]
    rw [e, this]
    grind
/-- How far two sums are apart. -/
def tot : List Rat → Rat
  | [] => 0
  | a :: r => ab a + tot r
def dist : List Rat → List Rat → Rat
  | [], B => tot B
  | a :: r, B => match B with
    | [] => ab a + tot r
    | b :: t => ab (a - b) + dist r t
theorem term_bd {a y : Rat} (y0 : 0 ≤ y) (y1 : y ≤ 1) (k : Nat) : a * y ^ k ≤ ab a ∧ -ab a ≤ a * y ^ k := by
  obtain ⟨h1, h2, h3⟩ := ab_bd a
  have p0 := TS.pow_nn y0 k
  have p1 := TS.pow_one_le y0 y1 k
  have g1 := mul_le h1 p0
  have g2 := mul_le h2 p0
  have g3 := mul_le p1 h3
  constructor <;> grind
theorem ev_tot {y : Rat} (y0 : 0 ≤ y) (y1 : y ≤ 1) : ∀ (A : List Rat) (k : Nat), ev k A y ≤ tot A ∧ -tot A ≤ ev k A y := by
  intro A
  induction A with
  | nil => intro k; simp only [ev, tot]; grind
  | cons a r ih =>
    intro k
    have := ih (k + 1)
    have := term_bd (a := a) y0 y1 k
    simp only [ev, tot]
    constructor <;> grind
theorem ev_dist {y : Rat} (y0 : 0 ≤ y) (y1 : y ≤ 1) : ∀ (A B : List Rat) (k : Nat), ev k A y ≤ ev k B y + dist A B ∧ ev k B y ≤ ev k A y + dist A B := by
  intro A
  induction A with
  | nil =>
    intro B k
    have := ev_tot y0 y1 B k
    simp only [ev, dist]
    constructor <;> grind
  | cons a r ih =>
    intro B k
    cases B with
    | nil =>
      have := ev_tot y0 y1 r (k + 1)
      have := term_bd (a := a) y0 y1 k
      simp only [ev, dist]
      constructor <;> grind
    | cons b t =>
      have := ih t (k + 1)
      have := term_bd (a := a - b) y0 y1 k
      simp only [ev, dist]
      constructor <;> grind
/-! ### how a sum of powers grows -/
def slope : Nat → List Rat → Rat
  | _, [] => 0
  | k, a :: r => ab a * (k : Rat) + slope (k + 1) r
theorem pow_grow {a b : Rat} (h0 : 0 ≤ a) (h : a ≤ b) (h1 : b ≤ 1) (k : Nat) : 0 ≤ b ^ k - a ^ k ∧ b ^ k - a ^ k ≤ (k : Rat) * (b - a) := by
  induction k with
  | zero => rw [Rat.pow_zero, Rat.pow_zero]; simp; grind
  | succ k ih =>
    obtain ⟨i0, i1⟩ := ih
    have pb := TS.pow_nn (show 0 ≤ b by grind) k
    have pb1 := TS.pow_one_le (show 0 ≤ b by grind) h1 k
    have pa := TS.pow_nn h0 k
    have K := TS.cast_nn k
    rw [Rat.pow_succ, Rat.pow_succ, TS.cast_succ]
    have e : b ^ k * b - a ^ k * a = b ^ k * (b - a) + (b ^ k - a ^ k) * a := by grind
    rw [e]
    have g1 := mul_le pb1 (x := b - a) (by grind)
    have g2 := mul_le (show a ≤ 1 by grind) (x := b ^ k - a ^ k) i0
    have g3 := Rat.mul_nonneg pb (show 0 ≤ b - a by grind)
    have g4 := Rat.mul_nonneg i0 h0
    constructor <;> grind
theorem ev_grow {a b : Rat} (h0 : 0 ≤ a) (h : a ≤ b) (h1 : b ≤ 1) : ∀ (L : List Rat) (k : Nat), ev k L b - ev k L a ≤ slope k L * (b - a) ∧ -(slope k L * (b - a)) ≤ ev k L b - ev k L a := by
  intro L
  induction L with
  | nil => intro k; simp only [ev, slope]; grind
  | cons l r ih =>
    intro k
    have i := ih (k + 1)
    obtain ⟨p0, p1⟩ := pow_grow h0 h h1 k
    obtain ⟨a1, a2, a3⟩ := ab_bd l
    have g1 := mul_le a1 p0
    have g2 := mul_le a2 p0
    have g3 := mul_le p1 a3
    simp only [ev, slope]
    constructor <;> grind
/-- The sine's row. -/
def psin (J : Nat) (y : Rat) : Rat := ev 1 (lst J 1 2) y
theorem psin7_mono {a b : Rat} (h0 : 0 ≤ a) (h : a ≤ b) (h1 : b ≤ 1) : psin 7 a ≤ psin 7 b := by
  have g := (ev_grow h0 h h1 (lst 7 1 2).tail 2).2
  have k : slope 2 (lst 7 1 2).tail ≤ 1 := by decide +kernel
  have m := mul_le k (x := b - a) (by grind)
  have e : ∀ y, psin 7 y = y + ev 2 (lst 7 1 2).tail y := fun y => by
    show (1 : Rat) * y ^ 1 + ev 2 (lst 7 1 2).tail y = _
    rw [Rat.pow_succ, Rat.pow_zero]
    grind
  rw [e, e]
  grind
theorem psin8_mono {a b : Rat} (h0 : 0 ≤ a) (h : a ≤ b) (h1 : b ≤ 1) : psin 8 a ≤ psin 8 b := by
  have g := (ev_grow h0 h h1 (lst 8 1 2).tail 2).2
  have k : slope 2 (lst 8 1 2).tail ≤ 1 := by decide +kernel
  have m := mul_le k (x := b - a) (by grind)
  have e : ∀ y, psin 8 y = y + ev 2 (lst 8 1 2).tail y := fun y => by
    show (1 : Rat) * y ^ 1 + ev 2 (lst 8 1 2).tail y = _
    rw [Rat.pow_succ, Rat.pow_zero]
    grind
  rw [e, e]
  grind
/-- The cosine's row: by the square. -/
def lr : Nat → Int → List Rat
  | 0, _ => [1]
  | J + 1, n => 1 :: neg ((lr J (n + 2)).map fun a => a * (((n * (n + 1) : Int) : Rat))⁻¹)
theorem ev_scale (t y : Rat) : ∀ (L : List Rat) (k : Nat), ev k (L.map fun a => a * t) y = ev k L y * t := by
  intro L
  induction L with
  | nil => intro k; simp only [List.map, ev]; grind
  | cons a r ih => intro k; simp only [List.map, ev, ih]; grind
theorem ev_shift (y : Rat) : ∀ (L : List Rat) (k : Nat), ev (k + 1) L y = y * ev k L y := by
  intro L
  induction L with
  | nil => intro k; simp only [ev]; grind
  | cons a r ih => intro k; simp only [ev, ih]; rw [Rat.pow_succ]; grind
theorem al_lr (r : Rat) : ∀ (J : Nat) (T : Rat) (n : Int), al r J T n = T * ev 0 (lr J n) r := by
  intro J
  induction J with
  | zero => intro T n; simp only [al, lr, ev, Rat.pow_zero]; grind
  | succ J ih =>
    intro T n
    simp only [al, lr, ev, TS.ev_neg, ih, ev_scale, ev_shift, Rat.pow_zero, Rat.div_def]
    grind
def pcos (J : Nat) (y : Rat) : Rat := ev 0 (lst J 1 1) y
theorem pcos_al (J : Nat) (y : Rat) : pcos J y = ev 0 (lr J 1) (y * y) := by
  have h1 := al_lst y J 1 0 1
  have h2 := al_lr (y * y) J (1 * y ^ 0) 1
  rw [Rat.pow_zero] at h1 h2
  unfold pcos
  rw [← h1, h2]
  grind
theorem sq_mono {a b : Rat} (h0 : 0 ≤ a) (h : a ≤ b) : a * a ≤ b * b := by
  have g1 := mul_le h h0
  have g2 := mul_le h (x := b) (by grind)
  grind
def tail2 (J : Nat) (n : Int) : List Rat := neg ((neg ((lr J (n + 2 + 2)).map fun a => a * ((((n + 2) * (n + 2 + 1) : Int) : Rat))⁻¹)).map fun a => a * (((n * (n + 1) : Int) : Rat))⁻¹)
theorem lr_two (J : Nat) (n : Int) (y : Rat) : ev 0 (lr (J + 2) n) y = 1 - (((n * (n + 1) : Int) : Rat))⁻¹ * y + ev 2 (tail2 J n) y := by
  simp only [lr, tail2, neg, List.map, ev, Rat.pow_zero, Rat.pow_succ]
  grind
theorem pcos_mono (J : Nat) (k : slope 2 (tail2 J 1) ≤ 1 / 2) {a b : Rat} (h0 : 0 ≤ a) (h : a ≤ b) (h1 : b ≤ 1) : pcos (J + 2) b ≤ pcos (J + 2) a := by
  rw [pcos_al, pcos_al, lr_two J, lr_two J]
  have hs := sq_mono h0 h
  have hb : b * b ≤ 1 := by have := sq_mono (show 0 ≤ b by grind) h1; grind
  have g := (ev_grow (sq_nonneg a) hs hb (tail2 J 1) 2).1
  have m := mul_le k (x := b * b - a * a) (by grind)
  have e : (((1 * (1 + 1) : Int) : Rat))⁻¹ = 1 / 2 := by decide +kernel
  rw [e]
  generalize ev 2 (tail2 J 1) (a * a) = u at *
  generalize ev 2 (tail2 J 1) (b * b) = v at *
  generalize slope 2 (tail2 J 1) = w at *
  grind
theorem pcos7_mono {a b : Rat} (h0 : 0 ≤ a) (h : a ≤ b) (h1 : b ≤ 1) : pcos 7 b ≤ pcos 7 a := pcos_mono 5 (by decide +kernel) h0 h h1
theorem pcos8_mono {a b : Rat} (h0 : 0 ≤ a) (h : a ≤ b) (h1 : b ≤ 1) : pcos 8 b ≤ pcos 8 a := pcos_mono 6 (by decide +kernel) h0 h h1
/-! ### the true sine between rows -/
def tiny : Rat := 1 / 10000000000000
theorem xx_nn (n : Nat) : 0 ≤ xx n := Rat.mul_nonneg (by have := TS.q_pos; grind) (TS.cast_nn n)
theorem s_ge (n : Nat) (h : xx n ≤ 1) : psin 7 (xx n) - tiny ≤ s n := by
  have b := TS.b15 n h
  have d := (ev_dist (xx_nn n) h TS.B15 (0 :: lst 7 1 2) 0).2
  have k : dist TS.B15 (0 :: lst 7 1 2) ≤ tiny := by decide +kernel
  have e : ev 0 (0 :: lst 7 1 2) (xx n) = psin 7 (xx n) := by simp only [ev, psin]; grind
  rw [e] at d
  grind
theorem s_le (n : Nat) (h : xx n ≤ 1) : s n ≤ psin 8 (xx n) + tiny := by
  have b := TS.b17 n h
  have d := (ev_dist (xx_nn n) h TS.B17 (0 :: lst 8 1 2) 0).1
  have k : dist TS.B17 (0 :: lst 8 1 2) ≤ tiny := by decide +kernel
  have e : ev 0 (0 :: lst 8 1 2) (xx n) = psin 8 (xx n) := by simp only [ev, psin]; grind
  rw [e] at d
  grind
theorem c_ge (n : Nat) (h : xx n ≤ 1) : pcos 7 (xx n) - tiny ≤ c n := by
  have b := TS.a14 n h
  have d := (ev_dist (xx_nn n) h TS.A14 (lst 7 1 1) 0).2
  have k : dist TS.A14 (lst 7 1 1) ≤ tiny := by decide +kernel
  unfold pcos
  grind
theorem c_le (n : Nat) (h : xx n ≤ 1) : c n ≤ pcos 8 (xx n) + tiny := by
  have b := TS.a16 n h
  have d := (ev_dist (xx_nn n) h TS.A16 (lst 8 1 1) 0).1
  have k : dist TS.A16 (lst 8 1 1) ≤ tiny := by decide +kernel
  unfold pcos
  grind
end SI
end Go.Proofs.Ytlkompbigpbefab
namespace Go.Proofs.Ytlkompbigpbefab
set_option linter.unusedVariables false
namespace SI
open TS (mul_le sq_nonneg ev neg ab ab_bd q c s xx)
/-! ### arcs, and the spans of an eighth of a turn -/
def aL (h : Int) : Int := NM.down (h * 785398163) 32400000
def aH (h : Int) : Int := NM.up (h * 785398164) 32400000
def rowS (a : Int) : Int × Int := row 21 a a a a true a 2
def rowC (x : Int) : Int × Int := row 21 1000000000 1000000000 1000000000 1000000000 true x 1
def smL (h : Int) : Int := max (rowS (aL h)).1 0
def smH (h : Int) : Int := (rowS (aH h)).2
def nrL (h : Int) : Int := (rowC (aH h)).1
def nrH (h : Int) : Int := min (rowC (aL h)).2 1000000000
theorem arc_bd {h : Int} (h0 : 0 ≤ h) (h1 : h ≤ 32400000) : 0 ≤ aL h ∧ aL h ≤ aH h ∧ aH h ≤ 785398164 ∧ aH h ≤ aL h + 3 := by
  unfold aL aH NM.down NM.up
  omega
theorem arc_x {h : Int} (h0 : 0 ≤ h) : (aL h : Rat) ≤ xx (2 * h.toNat) * 1000000000 ∧ xx (2 * h.toNat) * 1000000000 ≤ (aH h : Rat) := by
  obtain ⟨a1, _⟩ := down_bd (h * 785398163) (m := 32400000) (by decide)
  obtain ⟨b1, _⟩ := up_bd (h * 785398164) (m := 32400000) (by decide)
  rw [cast_mul] at a1 b1
  have e : ((2 * h.toNat : Nat) : Rat) = 2 * (h : Rat) := by
    have : ((h.toNat : Nat) : Int) = h := Int.toNat_of_nonneg h0
    have e2 : ((h.toNat : Nat) : Rat) = (h : Rat) := by
      rw [← Rat.intCast_natCast, this]
    push_cast
    rw [e2]
  have hh := cast_ge h0
  have k1 : (785398163 : Rat) ≤ q * 2 * 1000000000 * 32400000 := by decide +kernel
  have k2 : q * 2 * 1000000000 * 32400000 ≤ (785398164 : Rat) := by decide +kernel
  have g1 := mul_le k1 (x := (h : Rat)) (by simpa using hh)
  have g2 := mul_le k2 (x := (h : Rat)) (by simpa using hh)
  unfold xx
  rw [e]
  change (aL h : Rat) * ((32400000 : Int) : Rat) ≤ (h : Rat) * ((785398163 : Int) : Rat) at a1
  change (h : Rat) * ((785398164 : Int) : Rat) ≤ (aH h : Rat) * ((32400000 : Int) : Rat) at b1
  have c1 : ((32400000 : Int) : Rat) = 32400000 := rfl
  have c2 : ((785398163 : Int) : Rat) = 785398163 := rfl
  have c3 : ((785398164 : Int) : Rat) = 785398164 := rfl
  rw [c1, c2] at a1
  rw [c1, c3] at b1
  generalize (aL h : Rat) = u at *
  generalize (aH h : Rat) = v at *
  generalize (h : Rat) = w at *
  constructor
  · refine le_of_mul (m := 32400000) (by decide) ?_
    grind
  · refine le_of_mul (m := 32400000) (by decide) ?_
    grind
theorem al_hom (r t : Rat) (J : Nat) (T : Rat) (n : Int) : al r J (t * T) n = t * al r J T n := by
  rw [al_lr, al_lr]
  grind
/-- A number, by its unit. -/
def un (a : Int) : Rat := (a : Rat) / 1000000000
theorem un_mul (a : Int) : un a * 1000000000 = (a : Rat) := by unfold un; rw [Rat.div_def]; grind
theorem un_bd {a : Int} (h0 : 0 ≤ a) (h1 : a ≤ 785398164) : 0 ≤ un a ∧ un a ≤ 785398164 / 1000000000 := by
  have e := un_mul a
  have g0 := cast_ge h0
  have g1 := cast_ge h1
  have c1 : ((785398164 : Int) : Rat) = 785398164 := rfl
  have c0 : ((0 : Int) : Rat) = 0 := rfl
  rw [c1] at g1
  rw [c0] at g0
  generalize un a = y at *
  constructor <;> grind
theorem un_sq {a : Int} (h0 : 0 ≤ a) (h1 : a ≤ 785398164) : un a * un a * 1000000000000000000 = (a : Rat) * (a : Rat) ∧ 0 ≤ un a * un a ∧ un a * un a ≤ 62 / 100 := by
  obtain ⟨u0, u1⟩ := un_bd h0 h1
  have e := un_mul a
  refine ⟨by rw [← e]; grind, sq_nonneg _, ?_⟩
  have := sq_mono u0 u1
  grind
theorem chainS : chain 5 2 785398164 = true := by decide +kernel
theorem chainC : chain 6 1 1000000000 = true := by decide +kernel
theorem rowS_enc {a : Int} (h0 : 0 ≤ a) (h1 : a ≤ 785398164) (J : Nat) (hJ : 5 ≤ J) :
    ((rowS a).1 : Rat) ≤ 1000000000 * psin (J + 1) (un a) ∧ 1000000000 * psin (J + 1) (un a) ≤ ((rowS a).2 : Rat) ∧ 1000000000 * psin (J + 1) (un a) ≤ ((rowS a).1 : Rat) + 20 ∧ ((rowS a).2 : Rat) ≤ 1000000000 * psin (J + 1) (un a) + 20 := by
  obtain ⟨hr, r0, r1⟩ := un_sq h0 h1
  have E := enc h0 (by omega) hr r0 r1 5 21 J 2 785398164 a a a a true (a : Rat) (a : Rat) 0 (by decide) chainS (by decide) hJ h0 (by grind) (by grind) (by grind) (by grind) h1 (by grind) (by grind) (by grind) (by grind)
  have g : goal (un a * un a) J true (a : Rat) (a : Rat) 2 = 1000000000 * psin (J + 1) (un a) := by
    have e1 : goal (un a * un a) J true (a : Rat) (a : Rat) 2 = al (un a * un a) (J + 1) (a : Rat) 2 := rfl
    have e2 := al_lst (un a) (J + 1) 1 1 2
    have e3 : (a : Rat) = 1000000000 * (1 * un a ^ 1) := by
      rw [← un_mul a, Rat.pow_succ, Rat.pow_zero]
      grind
    rw [e1, e3, al_hom, e2]
    rfl
  rw [g] at E
  have k : (0 : Rat) + 3 * ((5 : Nat) : Rat) + 5 = 20 := by decide +kernel
  rw [k] at E
  exact E
theorem rowC_enc {a : Int} (h0 : 0 ≤ a) (h1 : a ≤ 785398164) (J : Nat) (hJ : 6 ≤ J) :
    ((rowC a).1 : Rat) ≤ 1000000000 * pcos (J + 1) (un a) ∧ 1000000000 * pcos (J + 1) (un a) ≤ ((rowC a).2 : Rat) ∧ 1000000000 * pcos (J + 1) (un a) ≤ ((rowC a).1 : Rat) + 23 ∧ ((rowC a).2 : Rat) ≤ 1000000000 * pcos (J + 1) (un a) + 23 := by
  obtain ⟨hr, r0, r1⟩ := un_sq h0 h1
  have c9 : ((1000000000 : Int) : Rat) = 1000000000 := rfl
  have E := enc h0 (by omega) hr r0 r1 6 21 J 1 1000000000 1000000000 1000000000 1000000000 1000000000 true 1000000000 1000000000 0 (by decide) chainC (by decide) hJ (by decide) (by rw [c9]; grind) (by rw [c9]; grind) (by rw [c9]; grind) (by rw [c9]; grind) (by decide) (by rw [c9]; grind) (by rw [c9]; grind) (by rw [c9]; grind) (by rw [c9]; grind)
  have g : goal (un a * un a) J true 1000000000 1000000000 1 = 1000000000 * pcos (J + 1) (un a) := by
    have e1 : goal (un a * un a) J true 1000000000 1000000000 1 = al (un a * un a) (J + 1) 1000000000 1 := rfl
    have e2 := al_lst (un a) (J + 1) 1 0 1
    have e3 : (1000000000 : Rat) = 1000000000 * (1 * un a ^ 0) := by
      rw [Rat.pow_zero]
      grind
    rw [e1, e3, al_hom, e2, ← e3]
    rfl
  rw [g] at E
  have k : (0 : Rat) + 3 * ((6 : Nat) : Rat) + 5 = 23 := by decide +kernel
  rw [k] at E
  exact E
end SI
end Go.Proofs.Ytlkompbigpbefab
namespace Go.Proofs.Ytlkompbigpbefab
set_option linter.unusedVariables false
namespace SI
open TS (mul_le sq_nonneg ev neg ab ab_bd q c s xx)
theorem psin_zero (J : Nat) : psin J 0 = 0 := TS.ev_zero _ _ (by decide)
theorem psin7_slope {a b : Rat} (h0 : 0 ≤ a) (h : a ≤ b) (h1 : b ≤ 1) : psin 7 b ≤ psin 7 a + 2 * (b - a) := by
  have g := (ev_grow h0 h h1 (lst 7 1 2) 1).1
  have k : slope 1 (lst 7 1 2) ≤ 2 := by decide +kernel
  have m := mul_le k (x := b - a) (by grind)
  unfold psin
  grind
theorem pcos7_slope {a b : Rat} (h0 : 0 ≤ a) (h : a ≤ b) (h1 : b ≤ 1) : pcos 7 a ≤ pcos 7 b + 2 * (b - a) := by
  have g := (ev_grow h0 h h1 (lst 7 1 1) 0).2
  have k : slope 0 (lst 7 1 1) ≤ 2 := by decide +kernel
  have m := mul_le k (x := b - a) (by grind)
  unfold pcos
  grind
structure Arc (h : Int) : Prop where
  y0 : 0 ≤ un (aL h)
  y1 : un (aL h) ≤ xx (2 * h.toNat)
  y2 : xx (2 * h.toNat) ≤ un (aH h)
  y3 : un (aH h) ≤ 785398164 / 1000000000
  y4 : 1000000000 * (un (aH h) - un (aL h)) ≤ 3
theorem arc_of {h : Int} (h0 : 0 ≤ h) (h1 : h ≤ 32400000) : Arc h := by
  obtain ⟨a0, a1, a2, a3⟩ := arc_bd h0 h1
  obtain ⟨x0, x1⟩ := arc_x h0
  have e1 := un_mul (aL h)
  have e2 := un_mul (aH h)
  have b1 := un_bd a0 (by omega)
  have b2 := un_bd (show 0 ≤ aH h by omega) a2
  have c3 := cast_ge a3
  rw [cast_add] at c3
  have k3 : ((3 : Int) : Rat) = 3 := rfl
  rw [k3] at c3
  refine ⟨b1.1, ?_, ?_, b2.2, ?_⟩
  · grind
  · grind
  · grind
structure Enc (L H : Int) (v : Rat) : Prop where
  lo : (L : Rat) ≤ 1000000000 * v + 1 / 1000
  hi : 1000000000 * v ≤ (H : Rat) + 1 / 1000
  le : L ≤ H
  wd : H ≤ L + 64
theorem small_enc {h : Int} (h0 : 0 ≤ h) (h1 : h ≤ 32400000) : Enc (smL h) (smH h) (s (2 * h.toNat)) ∧ 0 ≤ smL h ∧ smH h ≤ 800000000 := by
  obtain ⟨a0, a1, a2, _⟩ := arc_bd h0 h1
  obtain ⟨y0, y1, y2, y3, y4⟩ := arc_of h0 h1
  have x1 : xx (2 * h.toNat) ≤ 1 := by grind
  obtain ⟨r1, r2, r3, r4⟩ := rowS_enc a0 (by omega) 6 (by decide)
  obtain ⟨t1, t2, t3, t4⟩ := rowS_enc (show 0 ≤ aH h by omega) a2 6 (by decide)
  obtain ⟨_, v2, _, _⟩ := rowS_enc (show 0 ≤ aH h by omega) a2 7 (by decide)
  have m1 := psin7_mono y0 y1 x1
  have m2 := psin7_mono (show 0 ≤ xx (2 * h.toNat) by grind) y2 (by grind)
  have m3 := psin8_mono (show 0 ≤ xx (2 * h.toNat) by grind) y2 (by grind)
  have m4 := psin7_mono (show (0 : Rat) ≤ 0 by grind) y0 (by grind)
  rw [psin_zero] at m4
  have sl := psin7_slope y0 (show un (aL h) ≤ un (aH h) by grind) (by grind)
  have s1 := s_ge _ x1
  have s2 := s_le _ x1
  have sz := psin7_slope (show (0 : Rat) ≤ 0 by grind) (show (0 : Rat) ≤ un (aH h) by grind) (by grind)
  have up7 : psin 7 (un (aH h)) ≤ un (aH h) := by
    have e : ∀ y, psin 7 y = y + ev 2 (lst 7 1 2).tail y := fun y => by
      show (1 : Rat) * y ^ 1 + ev 2 (lst 7 1 2).tail y = _
      rw [Rat.pow_succ, Rat.pow_zero]
      grind
    have ha := al_bd (r := un (aH h) * un (aH h)) (sq_nonneg _) (by have := (un_sq (show 0 ≤ aH h by omega) a2).2.2; grind) 7 (1 * un (aH h) ^ 1) 2 (by rw [Rat.pow_succ, Rat.pow_zero]; grind) (by decide)
    rw [al_lst] at ha
    have := ha.2
    rw [Rat.pow_succ, Rat.pow_zero] at this
    unfold psin
    grind
  have tn : (1000000000 : Rat) * tiny ≤ 1 / 1000 := by decide +kernel
  have t0 : (0 : Rat) ≤ tiny := by decide +kernel
  generalize psin 7 (un (aL h)) = p1 at *
  generalize psin 7 (xx (2 * h.toNat)) = p2 at *
  generalize psin 7 (un (aH h)) = p3 at *
  generalize psin 8 (un (aH h)) = p4 at *
  generalize psin 8 (xx (2 * h.toNat)) = p5 at *
  generalize s (2 * h.toNat) = sv at *
  have H0 : (0 : Int) ≤ (rowS (aH h)).2 := cast_lt (by have c0 : ((0 : Int) : Rat) = 0 := rfl; rw [c0]; grind)
  have L1 : (rowS (aL h)).1 ≤ (rowS (aH h)).2 := cast_lt (by grind)
  have W1 : (rowS (aH h)).2 ≤ (rowS (aL h)).1 + 64 := cast_lt (by have c0 : ((64 : Int) : Rat) = 64 := rfl; rw [cast_add, c0]; grind)
  have U1 : (rowS (aH h)).2 ≤ 800000000 := cast_lt (by have c0 : ((800000000 : Int) : Rat) = 800000000 := rfl; rw [c0]; grind)
  have hi : 1000000000 * sv ≤ ((rowS (aH h)).2 : Rat) + 1 / 1000 := by grind
  rcases (show smL h = (rowS (aL h)).1 ∧ 0 ≤ (rowS (aL h)).1 ∨ smL h = 0 ∧ (rowS (aL h)).1 ≤ 0 by unfold smL; omega) with ⟨e, e'⟩ | ⟨e, e'⟩
  · rw [e]
    exact ⟨⟨by grind, hi, L1, W1⟩, e', U1⟩
  · rw [e]
    have c0 : ((0 : Int) : Rat) = 0 := rfl
    exact ⟨⟨by rw [c0]; grind, hi, H0, by unfold smH; omega⟩, by decide, U1⟩
theorem near_enc {h : Int} (h0 : 0 ≤ h) (h1 : h ≤ 32400000) : Enc (nrL h) (nrH h) (c (2 * h.toNat)) ∧ 0 ≤ nrL h ∧ nrH h ≤ 1000000000 := by
  obtain ⟨a0, a1, a2, _⟩ := arc_bd h0 h1
  obtain ⟨y0, y1, y2, y3, y4⟩ := arc_of h0 h1
  have x1 : xx (2 * h.toNat) ≤ 1 := by grind
  obtain ⟨r1, r2, r3, r4⟩ := rowC_enc a0 (by omega) 6 (by decide)
  obtain ⟨t1, t2, t3, t4⟩ := rowC_enc (show 0 ≤ aH h by omega) a2 6 (by decide)
  obtain ⟨_, v2, _, _⟩ := rowC_enc a0 (by omega) 7 (by decide)
  have m1 := pcos7_mono y0 y1 x1
  have m2 := pcos7_mono (show 0 ≤ xx (2 * h.toNat) by grind) y2 (by grind)
  have m3 := pcos8_mono y0 y1 x1
  have sl := pcos7_slope y0 (show un (aL h) ≤ un (aH h) by grind) (by grind)
  have s1 := c_ge _ x1
  have s2 := c_le _ x1
  have cl := TS.c_le (2 * h.toNat)
  have p0 : pcos 7 (un (aH h)) ≤ 1 ∧ 1 / 2 ≤ pcos 7 (un (aH h)) := by
    have k0 : pcos 7 0 = 1 := by decide +kernel
    have k1 := pcos7_mono (show (0 : Rat) ≤ 0 by grind) (show (0 : Rat) ≤ un (aH h) by grind) (by grind)
    have k2 := pcos7_mono (show 0 ≤ un (aH h) by grind) y3 (by decide +kernel)
    have k3 : (1 / 2 : Rat) ≤ pcos 7 (785398164 / 1000000000) := by decide +kernel
    constructor <;> grind
  have tn : (1000000000 : Rat) * tiny ≤ 1 / 1000 := by decide +kernel
  have t0 : (0 : Rat) ≤ tiny := by decide +kernel
  generalize pcos 7 (un (aL h)) = p1 at *
  generalize pcos 7 (xx (2 * h.toNat)) = p2 at *
  generalize pcos 7 (un (aH h)) = p3 at *
  generalize pcos 8 (un (aL h)) = p4 at *
  generalize pcos 8 (xx (2 * h.toNat)) = p5 at *
  generalize c (2 * h.toNat) = sv at *
  have c9 : ((1000000000 : Int) : Rat) = 1000000000 := rfl
  have L0 : (0 : Int) ≤ (rowC (aH h)).1 := cast_lt (by have c0 : ((0 : Int) : Rat) = 0 := rfl; rw [c0]; grind)
  have L9 : (rowC (aH h)).1 ≤ 1000000000 := cast_lt (by rw [c9]; grind)
  have L1 : (rowC (aH h)).1 ≤ (rowC (aL h)).2 := cast_lt (by grind)
  have W1 : (rowC (aL h)).2 ≤ (rowC (aH h)).1 + 64 := cast_lt (by have c0 : ((64 : Int) : Rat) = 64 := rfl; rw [cast_add, c0]; grind)
  have lo : ((rowC (aH h)).1 : Rat) ≤ 1000000000 * sv + 1 / 1000 := by grind
  rcases (show nrH h = (rowC (aL h)).2 ∧ (rowC (aL h)).2 ≤ 1000000000 ∨ nrH h = 1000000000 ∧ 1000000000 ≤ (rowC (aL h)).2 by unfold nrH; omega) with ⟨e, e'⟩ | ⟨e, e'⟩
  · rw [e]
    exact ⟨⟨lo, by grind, L1, W1⟩, L0, e'⟩
  · rw [e]
    exact ⟨⟨lo, by rw [c9]; grind, L9, by unfold nrL; omega⟩, L0, by decide⟩
end SI
end Go.Proofs.Ytlkompbigpbefab
namespace Go.Proofs.Ytlkompbigpbefab
set_option linter.unusedVariables false
namespace SI
open TS (mul_le sq_nonneg ev neg ab ab_bd q c s xx)
/-! ### an eighth, a quarter, half, and a whole turn -/
theorem eighth {N : Nat} (hN : N = 64800000) : 70710678118634 / 100000000000000 ≤ s N ∧ s N ≤ 70710678118674 / 100000000000000 ∧ 70710678118634 / 100000000000000 ≤ c N ∧ c N ≤ 70710678118674 / 100000000000000 := by
  have xq : xx N ≤ 1 := by subst hN; decide +kernel
  have h1 := s_ge N xq
  have h2 := s_le N xq
  have h3 := c_ge N xq
  have h4 := c_le N xq
  have k1 : (70710678118634 / 100000000000000 : Rat) ≤ psin 7 (xx N) - tiny := by subst hN; decide +kernel
  have k2 : psin 8 (xx N) + tiny ≤ (70710678118674 / 100000000000000 : Rat) := by subst hN; decide +kernel
  have k3 : (70710678118634 / 100000000000000 : Rat) ≤ pcos 7 (xx N) - tiny := by subst hN; decide +kernel
  have k4 : pcos 8 (xx N) + tiny ≤ (70710678118674 / 100000000000000 : Rat) := by subst hN; decide +kernel
  clear hN
  refine ⟨?_, ?_, ?_, ?_⟩ <;> grind
/-- A little. -/
def eps : Rat := 1 / 1000000000000
theorem eps0 : 0 ≤ eps := by decide +kernel
theorem abs_le_of_sq {x y : Rat} (hy : 0 ≤ y) (h : x * x ≤ y * y) : x ≤ y ∧ -y ≤ x := by
  constructor
  · rcases Rat.le_total (a := x) (b := y) with h1 | h1
    · exact h1
    · have := sq_mono hy h1
      have e : x * x = y * y := by grind
      have e2 : (x - y) * (x + y) = 0 := by grind
      rcases Rat.mul_eq_zero.1 e2 with h3 | h3 <;> grind
  · rcases Rat.le_total (a := -y) (b := x) with h1 | h1
    · exact h1
    · have := sq_mono hy (show y ≤ -x by grind)
      have e : x * x = y * y := by grind
      have e2 : (x - y) * (x + y) = 0 := by grind
      rcases Rat.mul_eq_zero.1 e2 with h3 | h3 <;> grind
theorem s_bd (n : Nat) : s n ≤ 1 ∧ -1 ≤ s n := by
  have h := TS.len n
  have h2 := sq_nonneg (c n)
  have := abs_le_of_sq (x := s n) (y := 1) (by decide) (by grind)
  exact ⟨this.1, by grind⟩
theorem c_bd (n : Nat) : c n ≤ 1 ∧ -1 ≤ c n := by
  have h := TS.len n
  have h2 := sq_nonneg (s n)
  have := abs_le_of_sq (x := c n) (y := 1) (by decide) (by grind)
  exact ⟨this.1, by grind⟩
theorem quarter {N : Nat} (hN : N = 64800000) : 1 - eps ≤ s (N + N) ∧ -eps ≤ c (N + N) ∧ c (N + N) ≤ eps := by
  obtain ⟨a1, a2, a3, a4⟩ := eighth hN
  obtain ⟨e1, e2⟩ := TS.add N N
  rw [e1, e2]
  clear hN e1 e2
  generalize s N = u at *
  generalize c N = v at *
  have k0 : (0 : Rat) ≤ 70710678118634 / 100000000000000 := by decide +kernel
  have g1 := mul_le a1 (x := v) (by grind)
  have g2 := mul_le a3 (x := (70710678118634 / 100000000000000 : Rat)) k0
  have f1 := sq_mono k0 a1
  have f2 := sq_mono (show (0 : Rat) ≤ u by grind) a2
  have f3 := sq_mono k0 a3
  have f4 := sq_mono (show (0 : Rat) ≤ v by grind) a4
  unfold eps
  refine ⟨?_, ?_, ?_⟩ <;> grind
/-- Nearly the same. -/
def near (x y d : Rat) : Prop := x ≤ y + d ∧ y ≤ x + d
theorem near_mul {x y d z : Rat} (h : near x y d) (h1 : z ≤ 1) (h2 : -1 ≤ z) (d0 : 0 ≤ d) : near (x * z) (y * z) d := by
  obtain ⟨a, b⟩ := h
  unfold near
  rcases Rat.le_total (a := 0) (b := z) with hz | hz
  · have g1 := mul_le a hz
    have g2 := mul_le b hz
    have g3 := mul_le h1 d0
    constructor <;> grind
  · have g1 := mul_le a (x := -z) (by grind)
    have g2 := mul_le b (x := -z) (by grind)
    have g3 := mul_le (show -z ≤ 1 by grind) d0
    constructor <;> grind
/-- A quarter further. -/
theorem turn_q {N : Nat} (hN : N = 64800000) (n : Nat) : near (s (n + (N + N))) (c n) (2 * eps) ∧ near (c (n + (N + N))) (-s n) (2 * eps) := by
  obtain ⟨a1, a2, a3⟩ := quarter hN
  obtain ⟨e1, e2⟩ := TS.add n (N + N)
  have b1 := s_bd n
  have b2 := c_bd n
  have b3 := s_bd (N + N)
  have z := eps0
  have m1 := near_mul (x := c (N + N)) (y := 0) (d := eps) (z := s n) ⟨by grind, by grind⟩ b1.1 b1.2 z
  have m2 := near_mul (x := s (N + N)) (y := 1) (d := eps) (z := c n) ⟨by grind, by grind⟩ b2.1 b2.2 z
  have m3 := near_mul (x := c (N + N)) (y := 0) (d := eps) (z := c n) ⟨by grind, by grind⟩ b2.1 b2.2 z
  have m4 := near_mul (x := s (N + N)) (y := 1) (d := eps) (z := s n) ⟨by grind, by grind⟩ b1.1 b1.2 z
  unfold near at *
  rw [e1, e2]
  clear hN e1 e2
  generalize s n = x at *
  generalize c n = y at *
  generalize s (N + N) = u at *
  generalize c (N + N) = v at *
  refine ⟨⟨?_, ?_⟩, ?_, ?_⟩ <;> grind
theorem near_trans {x y z d e : Rat} (h : near x y d) (g : near y z e) : near x z (d + e) := by
  unfold near at *
  constructor <;> grind
theorem near_neg {x y d : Rat} (h : near x y d) : near (-x) (-y) d := by
  unfold near at *
  constructor <;> grind
/-- Half a turn further. -/
theorem turn_h {N : Nat} (hN : N = 64800000) (n : Nat) : near (s (n + (N + N) + (N + N))) (-s n) (4 * eps) ∧ near (c (n + (N + N) + (N + N))) (-c n) (4 * eps) := by
  obtain ⟨a1, a2⟩ := turn_q hN n
  obtain ⟨b1, b2⟩ := turn_q hN (n + (N + N))
  have e : 2 * eps + 2 * eps = 4 * eps := by grind
  constructor
  · rw [← e]; exact near_trans b1 a2
  · rw [← e]; exact near_trans b2 (near_neg a1)
/-- A whole turn further. -/
theorem turn_t {N : Nat} (hN : N = 64800000) (n : Nat) : near (s (n + (N + N) + (N + N) + (N + N) + (N + N))) (s n) (8 * eps) ∧ near (c (n + (N + N) + (N + N) + (N + N) + (N + N))) (c n) (8 * eps) := by
  obtain ⟨a1, a2⟩ := turn_h hN n
  obtain ⟨b1, b2⟩ := turn_h hN (n + (N + N) + (N + N))
  have e : 4 * eps + 4 * eps = 8 * eps := by grind
  constructor
  · rw [← e]
    have := near_trans b1 (near_neg a1)
    rwa [Rat.neg_neg] at this
  · rw [← e]
    have := near_trans b2 (near_neg a2)
    rwa [Rat.neg_neg] at this
/-- What lacks. -/
theorem lack {m k : Nat} : s m = s (m + k) * c k - c (m + k) * s k ∧ c m = c (m + k) * c k + s (m + k) * s k := by
  obtain ⟨e1, e2⟩ := TS.add m k
  have l := TS.len k
  rw [e1, e2]
  constructor <;> grind
/-- What lacks to a quarter. -/
theorem lack_q {N : Nat} (hN : N = 64800000) {m k : Nat} (h : m + k = N + N) : near (s m) (c k) (2 * eps) ∧ near (c m) (s k) (2 * eps) := by
  obtain ⟨a1, a2, a3⟩ := quarter hN
  obtain ⟨e1, e2⟩ := @lack m k
  rw [h] at e1 e2
  have b1 := s_bd k
  have b2 := c_bd k
  have b3 := s_bd (N + N)
  have z := eps0
  have m1 := near_mul (x := c (N + N)) (y := 0) (d := eps) (z := s k) ⟨by grind, by grind⟩ b1.1 b1.2 z
  have m2 := near_mul (x := s (N + N)) (y := 1) (d := eps) (z := c k) ⟨by grind, by grind⟩ b2.1 b2.2 z
  have m3 := near_mul (x := c (N + N)) (y := 0) (d := eps) (z := c k) ⟨by grind, by grind⟩ b2.1 b2.2 z
  have m4 := near_mul (x := s (N + N)) (y := 1) (d := eps) (z := s k) ⟨by grind, by grind⟩ b1.1 b1.2 z
  unfold near at *
  rw [e1, e2]
  clear hN e1 e2 h
  generalize s k = x at *
  generalize c k = y at *
  generalize s (N + N) = u at *
  generalize c (N + N) = v at *
  refine ⟨⟨?_, ?_⟩, ?_, ?_⟩ <;> grind
/-- What lacks to half a turn. -/
theorem lack_h {N : Nat} (hN : N = 64800000) {m k : Nat} (h : m + k = N + N + (N + N)) : near (s m) (s k) (8 * eps) ∧ near (c m) (-c k) (8 * eps) := by
  obtain ⟨a1, a2⟩ := turn_h hN 0
  rw [Nat.zero_add, TS.s0] at a1
  rw [Nat.zero_add, TS.c0] at a2
  obtain ⟨e1, e2⟩ := @lack m k
  rw [h] at e1 e2
  have b1 := s_bd k
  have b2 := c_bd k
  have z := eps0
  have m1 := near_mul (z := s k) a1 b1.1 b1.2 (by grind)
  have m2 := near_mul (z := s k) a2 b1.1 b1.2 (by grind)
  have m3 := near_mul (z := c k) a1 b2.1 b2.2 (by grind)
  have m4 := near_mul (z := c k) a2 b2.1 b2.2 (by grind)
  unfold near at *
  rw [e1, e2]
  clear hN e1 e2 h
  generalize s k = x at *
  generalize c k = y at *
  generalize s (N + N + (N + N)) = u at *
  generalize c (N + N + (N + N)) = v at *
  refine ⟨⟨?_, ?_⟩, ?_, ?_⟩ <;> grind
/-! ### the spans of all sines -/
def quL (h : Int) : Int := if h = 0 then 0 else if h = 21600000 then 500000000 else if h = 64800000 then 1000000000 else if h ≤ 32400000 then smL h else nrL (64800000 - h)
def quH (h : Int) : Int := if h = 0 then 0 else if h = 21600000 then 500000000 else if h = 64800000 then 1000000000 else if h ≤ 32400000 then smH h else nrH (64800000 - h)
def haL (h : Int) : Int := if 64800000 < h then quL (129600000 - h) else quL h
def haH (h : Int) : Int := if 64800000 < h then quH (129600000 - h) else quH h
/-- The span of the sine of so many halves of a part. -/
def siL (h : Int) : Int := if 129600000 ≤ h % 259200000 then -haH (h % 259200000 - 129600000) else haL (h % 259200000)
def siH (h : Int) : Int := if 129600000 ≤ h % 259200000 then -haL (h % 259200000 - 129600000) else haH (h % 259200000)
/-- The true sine and cosine of so many halves of a part. -/
def S (h : Int) : Rat := s (2 * (h % 259200000).toNat)
def C (h : Int) : Rat := c (2 * (h % 259200000).toNat)
/-- A number is nearly in a span. -/
structure In (L H : Int) (v : Rat) (d : Rat) : Prop where
  lo : (L : Rat) ≤ 1000000000 * v + d
  hi : 1000000000 * v ≤ (H : Rat) + d
structure Fit (L H : Int) : Prop where
  a : -1000000000 ≤ L
  b : L ≤ H
  c : H ≤ 1000000000
  d : H ≤ L + 64
theorem half_pt {n : Nat} (hn : n = 43200000) : near (s n) (1 / 2) (1 / 1000000000000) := by
  have xq : xx n ≤ 1 := by subst hn; decide +kernel
  have h1 := s_ge n xq
  have h2 := s_le n xq
  have k1 : (1 / 2 - 1 / 1000000000000 : Rat) ≤ psin 7 (xx n) - tiny := by subst hn; decide +kernel
  have k2 : psin 8 (xx n) + tiny ≤ (1 / 2 + 1 / 1000000000000 : Rat) := by subst hn; decide +kernel
  clear hn
  unfold near
  constructor <;> grind
theorem qu_enc {h : Int} (h0 : 0 ≤ h) (h1 : h ≤ 64800000) : In (quL h) (quH h) (s (2 * h.toNat)) (1 / 200) ∧ Fit (quL h) (quH h) ∧ 0 ≤ quL h := by
  obtain ⟨N, hN⟩ : ∃ N : Nat, N = 64800000 := ⟨_, rfl⟩
  have c0 : ((0 : Int) : Rat) = 0 := rfl
  have c5 : ((500000000 : Int) : Rat) = 500000000 := rfl
  have c9 : ((1000000000 : Int) : Rat) = 1000000000 := rfl
  unfold quL quH
  by_cases z0 : h = 0
  · rw [if_pos z0, if_pos z0]
    have e : 2 * h.toNat = 0 := by omega
    rw [e, TS.s0]
    exact ⟨⟨by rw [c0]; grind, by rw [c0]; grind⟩, ⟨by decide, by decide, by decide, by decide⟩, by decide⟩
  · rw [if_neg z0, if_neg z0]
    by_cases z1 : h = 21600000
    · rw [if_pos z1, if_pos z1]
      obtain ⟨p1, p2⟩ := half_pt (n := 2 * h.toNat) (by omega)
      generalize s (2 * h.toNat) = v at *
      exact ⟨⟨by rw [c5]; grind, by rw [c5]; grind⟩, ⟨by decide, by decide, by decide, by decide⟩, by decide⟩
    · rw [if_neg z1, if_neg z1]
      by_cases z2 : h = 64800000
      · rw [if_pos z2, if_pos z2]
        obtain ⟨a1, _, _⟩ := quarter hN
        have e : 2 * h.toNat = N + N := by omega
        rw [e]
        have b := (s_bd (N + N)).1
        unfold eps at a1
        generalize s (N + N) = v at *
        exact ⟨⟨by rw [c9]; grind, by rw [c9]; grind⟩, ⟨by decide, by decide, by decide, by decide⟩, by decide⟩
      · rw [if_neg z2, if_neg z2]
        by_cases z3 : h ≤ 32400000
        · rw [if_pos z3, if_pos z3]
          obtain ⟨⟨l, u, le, wd⟩, n0, n9⟩ := small_enc h0 z3
          generalize s (2 * h.toNat) = v at *
          exact ⟨⟨by grind, by grind⟩, ⟨by omega, le, by omega, wd⟩, n0⟩
        · rw [if_neg z3, if_neg z3]
          obtain ⟨⟨l, u, le, wd⟩, n0, n9⟩ := near_enc (h := 64800000 - h) (by omega) (by omega)
          obtain ⟨⟨q1, q2⟩, _⟩ := lack_q hN (m := 2 * h.toNat) (k := 2 * (64800000 - h).toNat) (by omega)
          unfold eps at q1 q2
          generalize s (2 * h.toNat) = v at *
          generalize c (2 * (64800000 - h).toNat) = w at *
          exact ⟨⟨by grind, by grind⟩, ⟨by omega, le, n9, wd⟩, n0⟩
theorem ha_enc {h : Int} (h0 : 0 ≤ h) (h1 : h ≤ 129600000) : In (haL h) (haH h) (s (2 * h.toNat)) (1 / 50) ∧ Fit (haL h) (haH h) ∧ 0 ≤ haL h := by
  obtain ⟨N, hN⟩ : ∃ N : Nat, N = 64800000 := ⟨_, rfl⟩
  unfold haL haH
  by_cases z : 64800000 < h
  · rw [if_pos z, if_pos z]
    obtain ⟨⟨l, u⟩, F, n0⟩ := qu_enc (h := 129600000 - h) (by omega) (by omega)
    obtain ⟨⟨q1, q2⟩, _⟩ := lack_h hN (m := 2 * h.toNat) (k := 2 * (129600000 - h).toNat) (by omega)
    unfold eps at q1 q2
    generalize s (2 * h.toNat) = v at *
    generalize s (2 * (129600000 - h).toNat) = w at *
    exact ⟨⟨by grind, by grind⟩, F, n0⟩
  · rw [if_neg z, if_neg z]
    obtain ⟨⟨l, u⟩, F, n0⟩ := qu_enc h0 (by omega)
    generalize s (2 * h.toNat) = v at *
    exact ⟨⟨by grind, by grind⟩, F, n0⟩
/-- The span of a sine has it, nearly. -/
theorem si_enc (h : Int) : In (siL h) (siH h) (S h) (1 / 25) ∧ Fit (siL h) (siH h) := by
  obtain ⟨N, hN⟩ : ∃ N : Nat, N = 64800000 := ⟨_, rfl⟩
  have b0 : 0 ≤ h % 259200000 := Int.emod_nonneg _ (by decide)
  have b1 : h % 259200000 < 259200000 := Int.emod_lt_of_pos _ (by decide)
  unfold siL siH S
  generalize h % 259200000 = g at *
  by_cases z : 129600000 ≤ g
  · rw [if_pos z, if_pos z]
    obtain ⟨⟨l, u⟩, ⟨fa, fb, fc, fd⟩, n0⟩ := ha_enc (h := g - 129600000) (by omega) (by omega)
    obtain ⟨⟨q1, q2⟩, _⟩ := turn_h hN (2 * (g - 129600000).toNat)
    have e : 2 * (g - 129600000).toNat + (N + N) + (N + N) = 2 * g.toNat := by omega
    rw [e] at q1 q2
    unfold eps at q1 q2
    have cn : ∀ a : Int, ((-a : Int) : Rat) = -(a : Rat) := fun a => by push_cast; rfl
    generalize s (2 * g.toNat) = v at *
    generalize s (2 * (g - 129600000).toNat) = w at *
    exact ⟨⟨by rw [cn]; grind, by rw [cn]; grind⟩, ⟨by omega, by omega, by omega, by omega⟩⟩
  · rw [if_neg z, if_neg z]
    obtain ⟨⟨l, u⟩, F, n0⟩ := ha_enc b0 (by omega)
    generalize s (2 * g.toNat) = v at *
    exact ⟨⟨by grind, by grind⟩, F⟩
end SI
end Go.Proofs.Ytlkompbigpbefab
namespace Go.Proofs.Ytlkompbigpbefab
namespace SI
set_option linter.unusedVariables false
open TS (mul_le sq_nonneg ev neg ab ab_bd q c s xx)
/-! ### turned about, a turn more, half a turn more -/
theorem si_turn (h : Int) : siL (h + 259200000) = siL h ∧ siH (h + 259200000) = siH h := by
  have e : (h + 259200000) % 259200000 = h % 259200000 := by omega
  unfold siL siH
  rw [e]
  exact ⟨rfl, rfl⟩
theorem qu0 : quL 0 = 0 ∧ quH 0 = 0 := ⟨rfl, rfl⟩
theorem ha_sym {h : Int} (h0 : 0 ≤ h) (h1 : h ≤ 129600000) : haL (129600000 - h) = haL h ∧ haH (129600000 - h) = haH h := by
  unfold haL haH
  by_cases z : 64800000 < h
  · rw [if_pos z, if_pos z, if_neg (by omega), if_neg (by omega)]
    exact ⟨rfl, rfl⟩
  · rw [if_neg z, if_neg z]
    by_cases z2 : h = 64800000
    · subst z2
      exact ⟨rfl, rfl⟩
    · rw [if_pos (by omega), if_pos (by omega)]
      have : 129600000 - (129600000 - h) = h := by omega
      rw [this]
      exact ⟨rfl, rfl⟩
theorem ha0 : haL 0 = 0 ∧ haH 0 = 0 := ⟨rfl, rfl⟩
theorem ha9 : haL 129600000 = 0 ∧ haH 129600000 = 0 := ⟨rfl, rfl⟩
theorem si_half (h : Int) : siL (h + 129600000) = -siH h ∧ siH (h + 129600000) = -siL h := by
  have b0 : 0 ≤ h % 259200000 := Int.emod_nonneg _ (by decide)
  have b1 : h % 259200000 < 259200000 := Int.emod_lt_of_pos _ (by decide)
  unfold siL siH
  by_cases z : 129600000 ≤ h % 259200000
  · have e : (h + 129600000) % 259200000 = h % 259200000 - 129600000 := by omega
    rw [e, if_pos z, if_pos z, if_neg (by omega), if_neg (by omega)]
    omega
  · have e : (h + 129600000) % 259200000 = h % 259200000 + 129600000 := by omega
    rw [e, if_neg z, if_neg z, if_pos (by omega), if_pos (by omega)]
    have : h % 259200000 + 129600000 - 129600000 = h % 259200000 := by omega
    rw [this]
    omega
theorem si_neg (h : Int) : siL (-h) = -siH h ∧ siH (-h) = -siL h := by
  have b0 : 0 ≤ h % 259200000 := Int.emod_nonneg _ (by decide)
  have b1 : h % 259200000 < 259200000 := Int.emod_lt_of_pos _ (by decide)
  unfold siL siH
  by_cases z0 : h % 259200000 = 0
  · have e : (-h) % 259200000 = 0 := by omega
    rw [e, z0]
    obtain ⟨a, b⟩ := ha0
    rw [if_neg (by decide), if_neg (by decide), a, b]
    decide
  · have e : (-h) % 259200000 = 259200000 - h % 259200000 := by omega
    rw [e]
    generalize h % 259200000 = g at *
    by_cases z : 129600000 ≤ g
    · rw [if_pos z, if_pos z]
      by_cases z2 : g = 129600000
      · subst z2
        rw [if_pos (by decide), if_pos (by decide)]
        obtain ⟨a, b⟩ := ha0
        have e2 : (259200000 : Int) - 129600000 - 129600000 = 0 := by decide
        have e3 : (129600000 : Int) - 129600000 = 0 := by decide
        rw [e2, e3, a, b]
        decide
      · rw [if_neg (by omega), if_neg (by omega)]
        obtain ⟨a, b⟩ := ha_sym (h := g - 129600000) (by omega) (by omega)
        have e2 : 129600000 - (g - 129600000) = 259200000 - g := by omega
        rw [e2] at a b
        rw [a, b]
        omega
    · rw [if_neg z, if_neg z, if_pos (by omega), if_pos (by omega)]
      obtain ⟨a, b⟩ := ha_sym (h := g) (by omega) (by omega)
      have e2 : 259200000 - g - 129600000 = 129600000 - g := by omega
      rw [e2, a, b]
      exact ⟨rfl, rfl⟩
theorem si_lack (h : Int) : siL (129600000 - h) = siL h ∧ siH (129600000 - h) = siH h := by
  obtain ⟨a, b⟩ := si_half (-h)
  obtain ⟨d, e⟩ := si_neg h
  have k : -h + 129600000 = 129600000 - h := by omega
  rw [k] at a b
  omega
/-- A cosine turned about is the same. -/
theorem si_cos (h : Int) : siL (-h + 64800000) = siL (h + 64800000) ∧ siH (-h + 64800000) = siH (h + 64800000) := by
  have := si_lack (h + 64800000)
  have k : 129600000 - (h + 64800000) = -h + 64800000 := by omega
  rw [k] at this
  exact this
/-! ### the true ones -/
theorem SC_len (h : Int) : C h * C h + S h * S h = 1 := TS.len _
theorem S_bd (h : Int) : S h ≤ 1 ∧ -1 ≤ S h := s_bd _
theorem C_bd (h : Int) : C h ≤ 1 ∧ -1 ≤ C h := c_bd _
theorem SC_add (a b : Int) : near (S (a + b)) (S a * C b + C a * S b) (8 * eps) ∧ near (C (a + b)) (C a * C b - S a * S b) (8 * eps) := by
  obtain ⟨N, hN⟩ : ∃ N : Nat, N = 64800000 := ⟨_, rfl⟩
  have a0 : 0 ≤ a % 259200000 := Int.emod_nonneg _ (by decide)
  have a1 : a % 259200000 < 259200000 := Int.emod_lt_of_pos _ (by decide)
  have b0 : 0 ≤ b % 259200000 := Int.emod_nonneg _ (by decide)
  have b1 : b % 259200000 < 259200000 := Int.emod_lt_of_pos _ (by decide)
  have z := eps0
  unfold S C
  obtain ⟨e1, e2⟩ := TS.add (2 * (a % 259200000).toNat) (2 * (b % 259200000).toNat)
  rw [← e1, ← e2]
  by_cases g : a % 259200000 + b % 259200000 < 259200000
  · have e : 2 * ((a + b) % 259200000).toNat = 2 * (a % 259200000).toNat + 2 * (b % 259200000).toNat := by omega
    rw [e]
    unfold near
    refine ⟨⟨?_, ?_⟩, ?_, ?_⟩ <;> grind
  · obtain ⟨t1, t2⟩ := turn_t hN (2 * ((a + b) % 259200000).toNat)
    have e : 2 * ((a + b) % 259200000).toNat + (N + N) + (N + N) + (N + N) + (N + N) = 2 * (a % 259200000).toNat + 2 * (b % 259200000).toNat := by omega
    rw [e] at t1 t2
    exact ⟨⟨t1.2, t1.1⟩, ⟨t2.2, t2.1⟩⟩
theorem S_quart (h : Int) : near (S (h + 64800000)) (C h) (10 * eps) := by
  obtain ⟨N, hN⟩ : ∃ N : Nat, N = 64800000 := ⟨_, rfl⟩
  have a0 : 0 ≤ h % 259200000 := Int.emod_nonneg _ (by decide)
  have a1 : h % 259200000 < 259200000 := Int.emod_lt_of_pos _ (by decide)
  have z := eps0
  obtain ⟨t1, _⟩ := turn_q hN (2 * (h % 259200000).toNat)
  unfold S C
  by_cases g : h % 259200000 + 64800000 < 259200000
  · have e : 2 * ((h + 64800000) % 259200000).toNat = 2 * (h % 259200000).toNat + (N + N) := by omega
    rw [e]
    unfold near at *
    constructor <;> grind
  · obtain ⟨u1, _⟩ := turn_t hN (2 * ((h + 64800000) % 259200000).toNat)
    have e : 2 * ((h + 64800000) % 259200000).toNat + (N + N) + (N + N) + (N + N) + (N + N) = 2 * (h % 259200000).toNat + (N + N) := by omega
    rw [e] at u1
    unfold near at *
    constructor <;> grind
/-- The span of a cosine has it, nearly. -/
theorem ci_enc (h : Int) : In (siL (h + 64800000)) (siH (h + 64800000)) (C h) (1 / 15) ∧ Fit (siL (h + 64800000)) (siH (h + 64800000)) := by
  obtain ⟨⟨l, u⟩, F⟩ := si_enc (h + 64800000)
  obtain ⟨q1, q2⟩ := S_quart h
  unfold eps at q1 q2
  generalize S (h + 64800000) = v at *
  generalize C h = w at *
  exact ⟨⟨by grind, by grind⟩, F⟩
theorem In.wide {L H : Int} {v d : Rat} (h : In L H v d) {d' : Rat} (hd : d ≤ d') : In L H v d' := ⟨by have := h.lo; grind, by have := h.hi; grind⟩
/-! ### products of spans -/
/-- The least of a box's corners. -/
theorem corner_lo {a b p r x y : Rat} (h1 : a ≤ x) (h2 : x ≤ b) (h3 : p ≤ y) (h4 : y ≤ r) : a * p ≤ x * y ∨ a * r ≤ x * y ∨ b * p ≤ x * y ∨ b * r ≤ x * y := by
  rcases Rat.le_total (a := 0) (b := y) with hy | hy
  · have g := mul_le h1 hy
    rcases Rat.le_total (a := 0) (b := a) with ha | ha
    · have := mul_le h3 ha
      exact Or.inl (by grind)
    · have := mul_le h4 (x := -a) (by grind)
      exact Or.inr (Or.inl (by grind))
  · have g := mul_le h2 (x := -y) (by grind)
    rcases Rat.le_total (a := 0) (b := b) with hb | hb
    · have := mul_le h3 hb
      exact Or.inr (Or.inr (Or.inl (by grind)))
    · have := mul_le h4 (x := -b) (by grind)
      exact Or.inr (Or.inr (Or.inr (by grind)))
theorem corner_hi {a b p r x y : Rat} (h1 : a ≤ x) (h2 : x ≤ b) (h3 : p ≤ y) (h4 : y ≤ r) : x * y ≤ a * p ∨ x * y ≤ a * r ∨ x * y ≤ b * p ∨ x * y ≤ b * r := by
  rcases corner_lo (a := -b) (b := -a) (x := -x) (y := y) (p := p) (r := r) (by grind) (by grind) h3 h4 with h | h | h | h
  · exact Or.inr (Or.inr (Or.inl (by grind)))
  · exact Or.inr (Or.inr (Or.inr (by grind)))
  · exact Or.inl (by grind)
  · exact Or.inr (Or.inl (by grind))
/-- A number nearly in a span, brought in. -/
theorem brought {L H : Int} {v d : Rat} (h : In L H v d) (hl : L ≤ H) (d0 : 0 ≤ d) : ∃ x : Rat, (L : Rat) ≤ x ∧ x ≤ (H : Rat) ∧ x ≤ 1000000000 * v + d ∧ 1000000000 * v ≤ x + d := by
  have l := h.lo
  have u := h.hi
  have lh := cast_ge hl
  rcases Rat.le_total (a := (L : Rat)) (b := 1000000000 * v) with a | a
  · rcases Rat.le_total (a := 1000000000 * v) (b := (H : Rat)) with b | b
    · exact ⟨1000000000 * v, a, b, by grind, by grind⟩
    · exact ⟨H, lh, by grind, by grind, by grind⟩
  · exact ⟨L, by grind, lh, by grind, by grind⟩
theorem down_le (a : Int) : (NM.down a 1000000000 : Rat) * 1000000000 ≤ (a : Rat) := by
  have := (down_bd a (m := 1000000000) (by decide)).1
  rwa [unitc] at this
theorem up_ge (a : Int) : (a : Rat) ≤ (NM.up a 1000000000 : Rat) * 1000000000 := by
  have := (up_bd a (m := 1000000000) (by decide)).1
  rwa [unitc] at this
theorem down_ge (a : Int) : (a : Rat) ≤ (NM.down a 1000000000 : Rat) * 1000000000 + 1000000000 := by
  have := (down_bd a (m := 1000000000) (by decide)).2
  rwa [unitc] at this
theorem up_le (a : Int) : (NM.up a 1000000000 : Rat) * 1000000000 ≤ (a : Rat) + 1000000000 := by
  have := (up_bd a (m := 1000000000) (by decide)).2
  rwa [unitc] at this
/-- The corner's slack: a number of the box, and what it stands for. -/
theorem prod_near {x y v w d : Rat} (hv1 : v ≤ 1) (hv2 : -1 ≤ v) (hw1 : w ≤ 1) (hw2 : -1 ≤ w) (d0 : 0 ≤ d) (d1 : d ≤ 1 / 10) (x1 : x ≤ 1000000000 * v + d) (x2 : 1000000000 * v ≤ x + d) (y1 : y ≤ 1000000000 * w + d) (y2 : 1000000000 * w ≤ y + d) :
    x * y ≤ 1000000000 * 1000000000 * (v * w) + 3 * d * 1000000000 ∧ 1000000000 * 1000000000 * (v * w) ≤ x * y + 3 * d * 1000000000 := by
  obtain ⟨f, hf⟩ : ∃ f, x = 1000000000 * v + f := ⟨x - 1000000000 * v, by grind⟩
  obtain ⟨g, hg⟩ : ∃ g, y = 1000000000 * w + g := ⟨y - 1000000000 * w, by grind⟩
  have nf := near_mul (x := f) (y := 0) (d := d) (z := w) ⟨by grind, by grind⟩ hw1 hw2 d0
  have ng := near_mul (x := g) (y := 0) (d := d) (z := v) ⟨by grind, by grind⟩ hv1 hv2 d0
  have fg := near_mul (x := f) (y := 0) (d := d) (z := g) ⟨by grind, by grind⟩ (by grind) (by grind) d0
  unfold near at *
  have e : x * y = 1000000000 * 1000000000 * (v * w) + 1000000000 * (f * w) + 1000000000 * (g * v) + f * g := by rw [hf, hg]; grind
  rw [e]
  clear e hf hg x1 x2 y1 y2
  generalize f * w = t1 at *
  generalize g * v = t2 at *
  generalize f * g = t3 at *
  generalize v * w = t4 at *
  constructor <;> grind
theorem min4_le {a b c d : Int} {t : Rat} (h : (a : Rat) ≤ t ∨ (b : Rat) ≤ t ∨ (c : Rat) ≤ t ∨ (d : Rat) ≤ t) : ((min (min a b) (min c d) : Int) : Rat) ≤ t := by
  rcases h with h | h | h | h
  · have := cast_ge (show min (min a b) (min c d) ≤ a by omega); grind
  · have := cast_ge (show min (min a b) (min c d) ≤ b by omega); grind
  · have := cast_ge (show min (min a b) (min c d) ≤ c by omega); grind
  · have := cast_ge (show min (min a b) (min c d) ≤ d by omega); grind
theorem max4_ge {a b c d : Int} {t : Rat} (h : t ≤ (a : Rat) ∨ t ≤ (b : Rat) ∨ t ≤ (c : Rat) ∨ t ≤ (d : Rat)) : t ≤ ((max (max a b) (max c d) : Int) : Rat) := by
  rcases h with h | h | h | h
  · have := cast_ge (show a ≤ max (max a b) (max c d) by omega); grind
  · have := cast_ge (show b ≤ max (max a b) (max c d) by omega); grind
  · have := cast_ge (show c ≤ max (max a b) (max c d) by omega); grind
  · have := cast_ge (show d ≤ max (max a b) (max c d) by omega); grind
theorem mul_enc {L H M K : Int} {v w d : Rat} (h1 : In L H v d) (h2 : In M K w d) (l1 : L ≤ H) (l2 : M ≤ K) (hv : v ≤ 1 ∧ -1 ≤ v) (hw : w ≤ 1 ∧ -1 ≤ w) (d0 : 0 ≤ d) (d1 : d ≤ 1 / 10) :
    (SM.mulLo L H M K : Rat) ≤ 1000000000 * (v * w) + 3 * d ∧ 1000000000 * (v * w) ≤ (SM.mulHi L H M K : Rat) + 3 * d := by
  obtain ⟨x, a1, a2, a3, a4⟩ := brought h1 l1 d0
  obtain ⟨y, b1, b2, b3, b4⟩ := brought h2 l2 d0
  obtain ⟨p1, p2⟩ := prod_near hv.1 hv.2 hw.1 hw.2 d0 d1 a3 a4 b3 b4
  have q1 := down_le (L * M)
  have q2 := down_le (L * K)
  have q3 := down_le (H * M)
  have q4 := down_le (H * K)
  have u1 := up_ge (L * M)
  have u2 := up_ge (L * K)
  have u3 := up_ge (H * M)
  have u4 := up_ge (H * K)
  rw [cast_mul] at q1 q2 q3 q4 u1 u2 u3 u4
  constructor
  · refine min4_le ?_
    rcases corner_lo a1 a2 b1 b2 with h | h | h | h
    · exact Or.inl (by grind)
    · exact Or.inr (Or.inl (by grind))
    · exact Or.inr (Or.inr (Or.inl (by grind)))
    · exact Or.inr (Or.inr (Or.inr (by grind)))
  · have : 1000000000 * (v * w) - 3 * d ≤ (SM.mulHi L H M K : Rat) := by
      refine max4_ge ?_
      rcases corner_hi a1 a2 b1 b2 with h | h | h | h
      · exact Or.inl (by grind)
      · exact Or.inr (Or.inl (by grind))
      · exact Or.inr (Or.inr (Or.inl (by grind)))
      · exact Or.inr (Or.inr (Or.inr (by grind)))
    grind
/-- How great a product of sines' spans can be. -/
theorem mul_fit {L H M K : Int} (f : Fit L H) (g : Fit M K) : -1000000000 ≤ SM.mulLo L H M K ∧ SM.mulLo L H M K ≤ SM.mulHi L H M K ∧ SM.mulHi L H M K ≤ 1000000000 := by
  obtain ⟨f1, f2, f3, _⟩ := f
  obtain ⟨g1, g2, g3, _⟩ := g
  have bd : ∀ a b : Int, -1000000000 ≤ a → a ≤ 1000000000 → -1000000000 ≤ b → b ≤ 1000000000 → -1000000000 ≤ NM.down (a * b) 1000000000 ∧ NM.down (a * b) 1000000000 ≤ NM.up (a * b) 1000000000 ∧ NM.up (a * b) 1000000000 ≤ 1000000000 := fun a b a1 a2 b1 b2 => by
    have h1 : a * b ≤ 1000000000 * 1000000000 := by
      rcases Int.le_total 0 a with ha | ha
      · have := Int.mul_le_mul_of_nonneg_left b2 ha
        omega
      · have := Int.mul_le_mul_of_nonpos_left (a := a) ha b1
        omega
    have h2 : -(1000000000 * 1000000000) ≤ a * b := by
      rcases Int.le_total 0 a with ha | ha
      · have := Int.mul_le_mul_of_nonneg_left b1 ha
        omega
      · have := Int.mul_le_mul_of_nonpos_left (a := a) ha b2
        omega
    unfold NM.down NM.up
    omega
  have p1 := bd L M (by omega) (by omega) (by omega) (by omega)
  have p2 := bd L K (by omega) (by omega) (by omega) (by omega)
  have p3 := bd H M (by omega) (by omega) (by omega) (by omega)
  have p4 := bd H K (by omega) (by omega) (by omega) (by omega)
  unfold SM.mulLo SM.mulHi
  omega
end SI
end Go.Proofs.Ytlkompbigpbefab
namespace Go.Proofs.Ytlkompbigpbefab
namespace SI
set_option linter.unusedVariables false
open TS (mul_le sq_nonneg ev neg ab ab_bd q c s xx)
/-! ### sines that are exact -/
theorem ex0 : siL 0 = 0 ∧ siH 0 = 0 := by decide +kernel
theorem ex1 : siL 21600000 = 500000000 ∧ siH 21600000 = 500000000 := by decide +kernel
theorem ex2 : siL 43200000 < siH 43200000 := by decide +kernel
theorem ex3 : siL 64800000 = 1000000000 ∧ siH 64800000 = 1000000000 := by decide +kernel
theorem ex4 : siL 86400000 < siH 86400000 := by decide +kernel
theorem ex5 : siL 108000000 = 500000000 ∧ siH 108000000 = 500000000 := by decide +kernel
theorem ex6 : siL 129600000 = 0 ∧ siH 129600000 = 0 := by decide +kernel
theorem ex7 : siL 151200000 = -500000000 ∧ siH 151200000 = -500000000 := by decide +kernel
theorem ex8 : siL 172800000 < siH 172800000 := by decide +kernel
theorem ex9 : siL 194400000 = -1000000000 ∧ siH 194400000 = -1000000000 := by decide +kernel
theorem ex10 : siL 216000000 < siH 216000000 := by decide +kernel
theorem ex11 : siL 237600000 = -500000000 ∧ siH 237600000 = -500000000 := by decide +kernel
/-! ### how far a product of spans can be from the true one -/
theorem far_corner {a b v w : Rat} (hv : v ≤ 1 ∧ -1 ≤ v) (hw : w ≤ 1 ∧ -1 ≤ w) (a1 : a ≤ 1000000000 * v + 65) (a2 : 1000000000 * v ≤ a + 65) (b1 : b ≤ 1000000000 * w + 65) (b2 : 1000000000 * w ≤ b + 65) :
    a * b ≤ 1000000000 * 1000000000 * (v * w) + 131 * 1000000000 ∧ 1000000000 * 1000000000 * (v * w) ≤ a * b + 131 * 1000000000 := by
  obtain ⟨f, hf⟩ : ∃ f, a = 1000000000 * v + 65 * f := ⟨(a - 1000000000 * v) * (1 / 65), by grind⟩
  obtain ⟨g, hg⟩ : ∃ g, b = 1000000000 * w + 65 * g := ⟨(b - 1000000000 * w) * (1 / 65), by grind⟩
  have f1 : f ≤ 1 := by grind
  have f2 : -1 ≤ f := by grind
  have g1 : g ≤ 1 := by grind
  have g2 : -1 ≤ g := by grind
  have nf := near_mul (x := f) (y := 0) (d := 1) (z := w) ⟨by grind, by grind⟩ hw.1 hw.2 (by decide)
  have ng := near_mul (x := g) (y := 0) (d := 1) (z := v) ⟨by grind, by grind⟩ hv.1 hv.2 (by decide)
  have fg := near_mul (x := f) (y := 0) (d := 1) (z := g) ⟨by grind, by grind⟩ g1 g2 (by decide)
  unfold near at *
  have e : a * b = 1000000000 * 1000000000 * (v * w) + 65 * 1000000000 * (f * w) + 65 * 1000000000 * (g * v) + 65 * 65 * (f * g) := by rw [hf, hg]; grind
  rw [e]
  clear e hf hg a1 a2 b1 b2
  generalize f * w = t1 at *
  generalize g * v = t2 at *
  generalize f * g = t3 at *
  generalize v * w = t4 at *
  constructor <;> grind
theorem ends_near {L H : Int} {v d : Rat} (h : In L H v d) (f : Fit L H) (d0 : 0 ≤ d) (d1 : d ≤ 1 / 10) : ((L : Rat) ≤ 1000000000 * v + 65 ∧ 1000000000 * v ≤ (L : Rat) + 65) ∧ ((H : Rat) ≤ 1000000000 * v + 65 ∧ 1000000000 * v ≤ (H : Rat) + 65) := by
  have l := h.lo
  have u := h.hi
  have wd := cast_ge f.d
  rw [cast_add] at wd
  have c64 : ((64 : Int) : Rat) = 64 := rfl
  rw [c64] at wd
  have lh := cast_ge f.b
  refine ⟨⟨?_, ?_⟩, ?_, ?_⟩ <;> grind
theorem mul_lim {L H M K : Int} {v w d : Rat} (h1 : In L H v d) (h2 : In M K w d) (f : Fit L H) (g : Fit M K) (hv : v ≤ 1 ∧ -1 ≤ v) (hw : w ≤ 1 ∧ -1 ≤ w) (d0 : 0 ≤ d) (d1 : d ≤ 1 / 10) :
    (SM.mulHi L H M K : Rat) ≤ 1000000000 * (v * w) + 132 ∧ 1000000000 * (v * w) ≤ (SM.mulLo L H M K : Rat) + 132 := by
  obtain ⟨⟨l1, l2⟩, l3, l4⟩ := ends_near h1 f d0 d1
  obtain ⟨⟨m1, m2⟩, m3, m4⟩ := ends_near h2 g d0 d1
  have p1 := far_corner hv hw l1 l2 m1 m2
  have p2 := far_corner hv hw l1 l2 m3 m4
  have p3 := far_corner hv hw l3 l4 m1 m2
  have p4 := far_corner hv hw l3 l4 m3 m4
  have q1 := down_ge (L * M)
  have q2 := down_ge (L * K)
  have q3 := down_ge (H * M)
  have q4 := down_ge (H * K)
  have u1 := up_le (L * M)
  have u2 := up_le (L * K)
  have u3 := up_le (H * M)
  have u4 := up_le (H * K)
  rw [cast_mul] at q1 q2 q3 q4 u1 u2 u3 u4
  generalize v * w = t at *
  have hi : ∀ a b e f : Int, (a : Rat) ≤ 1000000000 * t + 132 → (b : Rat) ≤ 1000000000 * t + 132 → (e : Rat) ≤ 1000000000 * t + 132 → (f : Rat) ≤ 1000000000 * t + 132 → ((max (max a b) (max e f) : Int) : Rat) ≤ 1000000000 * t + 132 := fun a b e f ha hb he hf => by
    rcases (show max (max a b) (max e f) = a ∨ max (max a b) (max e f) = b ∨ max (max a b) (max e f) = e ∨ max (max a b) (max e f) = f by omega) with h | h | h | h <;> rw [h] <;> assumption
  have lo : ∀ a b e f : Int, 1000000000 * t ≤ (a : Rat) + 132 → 1000000000 * t ≤ (b : Rat) + 132 → 1000000000 * t ≤ (e : Rat) + 132 → 1000000000 * t ≤ (f : Rat) + 132 → 1000000000 * t ≤ ((min (min a b) (min e f) : Int) : Rat) + 132 := fun a b e f ha hb he hf => by
    rcases (show min (min a b) (min e f) = a ∨ min (min a b) (min e f) = b ∨ min (min a b) (min e f) = e ∨ min (min a b) (min e f) = f by omega) with h | h | h | h <;> rw [h] <;> assumption
  constructor
  · exact hi _ _ _ _ (by grind) (by grind) (by grind) (by grind)
  · exact lo _ _ _ _ (by grind) (by grind) (by grind) (by grind)
/-- Integers that are nearly in order are. -/
theorem le_of_near {a b : Int} {e : Rat} (h : (a : Rat) ≤ (b : Rat) + e) (he : e < 1) : a ≤ b := by
  by_cases g : a ≤ b
  · exact g
  · have := cast_ge (show b + 1 ≤ a by omega)
    rw [cast_add] at this
    have c1 : ((1 : Int) : Rat) = 1 := rfl
    rw [c1] at this
    exfalso
    grind
/-! ### both squares -/
theorem squares (h : Int) : SM.mulB (siL h) (siH h) (siL h) (siH h) = true ∧ SM.mulB (siL (h + 64800000)) (siH (h + 64800000)) (siL (h + 64800000)) (siH (h + 64800000)) = true ∧
    SM.addB (SM.mulLo (siL h) (siH h) (siL h) (siH h)) (SM.mulHi (siL h) (siH h) (siL h) (siH h)) (SM.mulLo (siL (h + 64800000)) (siH (h + 64800000)) (siL (h + 64800000)) (siH (h + 64800000))) (SM.mulHi (siL (h + 64800000)) (siH (h + 64800000)) (siL (h + 64800000)) (siH (h + 64800000))) = true ∧
    SM.hasB (SM.mulLo (siL h) (siH h) (siL h) (siH h) + SM.mulLo (siL (h + 64800000)) (siH (h + 64800000)) (siL (h + 64800000)) (siH (h + 64800000))) (SM.mulHi (siL h) (siH h) (siL h) (siH h) + SM.mulHi (siL (h + 64800000)) (siH (h + 64800000)) (siL (h + 64800000)) (siH (h + 64800000))) 1 1 = true := by
  obtain ⟨i1, f1⟩ := si_enc h
  obtain ⟨i2, f2⟩ := ci_enc h
  replace i1 := i1.wide (d' := 1 / 15) (by grind)
  have sv := S_bd h
  have cv := C_bd h
  have e1 := mul_enc i1 i1 f1.b f1.b sv sv (by grind) (by grind)
  have e2 := mul_enc i2 i2 f2.b f2.b cv cv (by grind) (by grind)
  have m1 := mul_lim i1 i1 f1 f1 sv sv (by grind) (by grind)
  have m2 := mul_lim i2 i2 f2 f2 cv cv (by grind) (by grind)
  have n1 := mul_fit f1 f1
  have n2 := mul_fit f2 f2
  have l := SC_len h
  have o1 : SM.okS (siL h) (siH h) = true := SM.okS_mk ⟨by have := f1.a; omega, f1.b, by have := f1.c; omega⟩
  have o2 : SM.okS (siL (h + 64800000)) (siH (h + 64800000)) = true := SM.okS_mk ⟨by have := f2.a; omega, f2.b, by have := f2.c; omega⟩
  have g1 : SM.mulB (siL h) (siH h) (siL h) (siH h) = true := by unfold SM.mulB; rw [SM.both_mk o1 o1, SM.okS_mk (by omega)]; rfl
  have g2 : SM.mulB (siL (h + 64800000)) (siH (h + 64800000)) (siL (h + 64800000)) (siH (h + 64800000)) = true := by unfold SM.mulB; rw [SM.both_mk o2 o2, SM.okS_mk (by omega)]; rfl
  refine ⟨g1, g2, ?_⟩
  have p1 := (SM.mul_of g1).2.2
  have p2 := (SM.mul_of g2).2.2
  clear g1 g2 o1 o2 i1 i2 f1 f2 sv cv
  generalize SM.mulLo (siL h) (siH h) (siL h) (siH h) = a1 at *
  generalize SM.mulHi (siL h) (siH h) (siL h) (siH h) = b1 at *
  generalize SM.mulLo (siL (h + 64800000)) (siH (h + 64800000)) (siL (h + 64800000)) (siH (h + 64800000)) = a2 at *
  generalize SM.mulHi (siL (h + 64800000)) (siH (h + 64800000)) (siL (h + 64800000)) (siH (h + 64800000)) = b2 at *
  generalize S h * S h = x at *
  generalize C h * C h = y at *
  have c9 : ((1000000000 : Int) : Rat) = 1000000000 := rfl
  have c8 : ((1000000264 : Int) : Rat) = 1000000264 := rfl
  have c7 : ((999999736 : Int) : Rat) = 999999736 := rfl
  have k1 : a1 + a2 ≤ 1000000000 := le_of_near (e := 2 / 5) (by rw [cast_add, c9]; grind) (by grind)
  have k2 : 1000000000 ≤ b1 + b2 := le_of_near (e := 2 / 5) (by rw [cast_add, c9]; grind) (by grind)
  have k3 : b1 + b2 ≤ 1000000264 := le_of_near (e := 0) (by rw [cast_add, c8]; grind) (by grind)
  have k4 : 999999736 ≤ a1 + a2 := le_of_near (e := 0) (by rw [cast_add, c7]; grind) (by grind)
  have ok : SM.okS (a1 + a2) (b1 + b2) = true := SM.okS_mk ⟨by omega, by omega, by omega⟩
  exact ⟨SM.add_mk p1 p2 ok, SM.has_mk ok (by decide) (by omega) (by omega)⟩
/-! ### sums of angles -/
theorem okSi (h : Int) : SM.okS (siL h) (siH h) = true := by
  obtain ⟨_, f⟩ := si_enc h
  exact SM.okS_mk ⟨by have := f.a; omega, f.b, by have := f.c; omega⟩
theorem okMul (h g : Int) : SM.mulB (siL h) (siH h) (siL g) (siH g) = true := by
  have n := mul_fit (si_enc h).2 (si_enc g).2
  unfold SM.mulB
  rw [SM.both_mk (okSi h) (okSi g), SM.okS_mk (by omega)]
  rfl
theorem sine_sum (a b : Int) : SM.mulLo (siL a) (siH a) (siL (b + 64800000)) (siH (b + 64800000)) + SM.mulLo (siL (a + 64800000)) (siH (a + 64800000)) (siL b) (siH b) ≤ siH (a + b) ∧
    siL (a + b) ≤ SM.mulHi (siL a) (siH a) (siL (b + 64800000)) (siH (b + 64800000)) + SM.mulHi (siL (a + 64800000)) (siH (a + 64800000)) (siL b) (siH b) := by
  obtain ⟨i1, f1⟩ := si_enc a
  obtain ⟨i2, f2⟩ := ci_enc a
  obtain ⟨i3, f3⟩ := si_enc b
  obtain ⟨i4, f4⟩ := ci_enc b
  obtain ⟨⟨l, u⟩, _⟩ := si_enc (a + b)
  obtain ⟨⟨n1, n2⟩, _⟩ := SC_add a b
  have e1 := mul_enc (i1.wide (d' := 1 / 15) (by grind)) i4 f1.b f4.b (S_bd a) (C_bd b) (by grind) (by grind)
  have e2 := mul_enc i2 (i3.wide (d' := 1 / 15) (by grind)) f2.b f3.b (C_bd a) (S_bd b) (by grind) (by grind)
  clear i1 i2 i3 i4 f1 f2 f3 f4
  unfold eps at n1 n2
  generalize S a * C b = x at *
  generalize C a * S b = y at *
  generalize S (a + b) = z at *
  constructor
  · exact le_of_near (e := 1 / 2) (by rw [cast_add]; grind) (by grind)
  · exact le_of_near (e := 1 / 2) (by rw [cast_add]; grind) (by grind)
theorem cos_sum (a b : Int) : SM.mulLo (siL (a + 64800000)) (siH (a + 64800000)) (siL (b + 64800000)) (siH (b + 64800000)) - SM.mulHi (siL a) (siH a) (siL b) (siH b) ≤ siH (a + b + 64800000) ∧
    siL (a + b + 64800000) ≤ SM.mulHi (siL (a + 64800000)) (siH (a + 64800000)) (siL (b + 64800000)) (siH (b + 64800000)) - SM.mulLo (siL a) (siH a) (siL b) (siH b) := by
  obtain ⟨i1, f1⟩ := si_enc a
  obtain ⟨i2, f2⟩ := ci_enc a
  obtain ⟨i3, f3⟩ := si_enc b
  obtain ⟨i4, f4⟩ := ci_enc b
  obtain ⟨⟨l, u⟩, _⟩ := ci_enc (a + b)
  obtain ⟨_, n1, n2⟩ := SC_add a b
  have e1 := mul_enc i2 i4 f2.b f4.b (C_bd a) (C_bd b) (by grind) (by grind)
  have e2 := mul_enc (i1.wide (d' := 1 / 15) (by grind)) (i3.wide (d' := 1 / 15) (by grind)) f1.b f3.b (S_bd a) (S_bd b) (by grind) (by grind)
  clear i1 i2 i3 i4 f1 f2 f3 f4
  unfold eps at n1 n2
  generalize C a * C b = x at *
  generalize S a * S b = y at *
  generalize C (a + b) = z at *
  constructor
  · exact le_of_near (e := 1 / 2) (by rw [cast_sub]; grind) (by grind)
  · exact le_of_near (e := 1 / 2) (by rw [cast_sub]; grind) (by grind)
/-! ### half an angle -/
theorem half_meet (a : Int) : SM.mulLo (siL a) (siH a) (siL a) (siH a) ≤ NM.up (1000000000 - siL (2 * a + 64800000)) 2 ∧ NM.down (1000000000 - siH (2 * a + 64800000)) 2 ≤ SM.mulHi (siL a) (siH a) (siL a) (siH a) := by
  obtain ⟨i1, f1⟩ := si_enc a
  obtain ⟨⟨l, u⟩, _⟩ := ci_enc (a + a)
  obtain ⟨_, n1, n2⟩ := SC_add a a
  have k : 2 * a = a + a := by omega
  rw [k]
  have e1 := mul_enc i1 i1 f1.b f1.b (S_bd a) (S_bd a) (by grind) (by grind)
  have ln := SC_len a
  obtain ⟨u1, u2⟩ := up_bd (1000000000 - siL (a + a + 64800000)) (m := 2) (by decide)
  obtain ⟨d1, d2⟩ := down_bd (1000000000 - siH (a + a + 64800000)) (m := 2) (by decide)
  rw [cast_sub] at u1 u2 d1 d2
  have c9 : ((1000000000 : Int) : Rat) = 1000000000 := rfl
  have c2 : ((2 : Int) : Rat) = 2 := rfl
  rw [c9, c2] at u1 u2 d1 d2
  clear i1 f1 k
  unfold eps at n1 n2
  generalize C a * C a = x at *
  generalize S a * S a = y at *
  generalize C (a + a) = z at *
  constructor
  · exact le_of_near (e := 1 / 2) (by grind) (by grind)
  · exact le_of_near (e := 1 / 2) (by grind) (by grind)
/-! ### greater angles -/
theorem c_low {N : Nat} (hN : N = 64800000) {M : Nat} (h : M ≤ N + N) : -(3 * eps) ≤ c M := by
  have xq : ∀ n : Nat, n ≤ N → xx n ≤ 1 := fun n hn => by
    have h1 : xx N ≤ 1 := by subst hN; decide +kernel
    have h2 := TS.cast_le hn
    have h3 := mul_le h2 (x := q) (by have := TS.q_pos; grind)
    unfold xx at *
    grind
  have ez := eps0
  by_cases k : M ≤ N
  · have h1 := c_ge M (xq M k)
    have h2 := pcos7_mono (a := xx M) (b := 1) (xx_nn M) (xq M k) (by grind)
    have h3 : (0 : Rat) ≤ pcos 7 1 - tiny := by decide +kernel
    grind
  · have hl := lack_q hN (m := M) (k := N + N - M) (by omega)
    obtain ⟨_, g1, g2⟩ := hl
    have h1 := s_ge (N + N - M) (xq _ (by omega))
    have h2 := psin7_mono (a := 0) (b := xx (N + N - M)) (by grind) (xx_nn _) (xq _ (by omega))
    rw [psin_zero] at h2
    have h3 : tiny ≤ eps := by decide +kernel
    grind
theorem s_grow {N : Nat} (hN : N = 64800000) {a b : Nat} (h : a ≤ b) (hb : b + b ≤ N + N) : s (2 * a) ≤ s (2 * b) + 6 * eps := by
  have e1 := (TS.add (a + b) (b - a)).1
  have e2 := (TS.add (2 * a) (b - a)).1
  have e3 := (@lack (2 * a) (b - a)).1
  have q1 : a + b + (b - a) = 2 * b := by omega
  have q2 : 2 * a + (b - a) = a + b := by omega
  rw [q1] at e1
  rw [q2] at e3
  have cl := c_low hN (M := a + b) (by omega)
  have sb := s_bd (b - a)
  have sn : -(3 * eps) ≤ s (b - a) := by
    have xq : xx (b - a) ≤ 1 := by
      have h1 : xx N ≤ 1 := by subst hN; decide +kernel
      have h2 := TS.cast_le (show b - a ≤ N by omega)
      have h3 := mul_le h2 (x := q) (by have := TS.q_pos; grind)
      unfold xx at *
      grind
    have h1 := s_ge (b - a) xq
    have h2 := psin7_mono (a := 0) (b := xx (b - a)) (by grind) (xx_nn _) xq
    rw [psin_zero] at h2
    have h3 : tiny ≤ eps := by decide +kernel
    have := eps0
    grind
  have cb := c_bd (a + b)
  have ez := eps0
  have e1' : eps ≤ 1 / 1000 := by decide +kernel
  have key : -(3 * eps) ≤ c (a + b) * s (b - a) := by
    rcases Rat.le_total (a := 0) (b := s (b - a)) with g | g
    · have := mul_le cl g
      have h2 := mul_le sb.1 (x := 3 * eps) (by grind)
      grind
    · have := mul_le cb.1 (x := -s (b - a)) (by grind)
      grind
  clear q1 q2 hN e2
  generalize c (a + b) * s (b - a) = t at *
  rw [e1, e3]
  grind
theorem si_more0 {a b : Int} (h0 : 0 ≤ a) (h : a ≤ b) (h1 : b ≤ 64800000) : siL a ≤ siH b := by
  obtain ⟨N, hN⟩ : ∃ N : Nat, N = 64800000 := ⟨_, rfl⟩
  obtain ⟨i1, _⟩ := si_enc a
  obtain ⟨i2, _⟩ := si_enc b
  have l := i1.lo
  have u := i2.hi
  have g := s_grow hN (a := a.toNat) (b := b.toNat) (by omega) (by omega)
  have ea : a % 259200000 = a := by omega
  have eb : b % 259200000 = b := by omega
  unfold S at l u
  rw [ea] at l
  rw [eb] at u
  unfold eps at g
  clear hN i1 i2
  generalize s (2 * a.toNat) = x at *
  generalize s (2 * b.toNat) = y at *
  exact le_of_near (e := 1 / 2) (by grind) (by grind)
theorem siH_nn {b : Int} (h0 : 0 ≤ b) (h1 : b ≤ 64800000) : 0 ≤ siH b := by
  obtain ⟨_, f, n⟩ := ha_enc (h := b) h0 (by omega)
  have e : b % 259200000 = b := by omega
  unfold siH
  rw [e, if_neg (by omega)]
  have := f.b
  omega
theorem si_more {a b : Int} (h0 : -64800000 ≤ a) (h : a ≤ b) (h1 : b ≤ 64800000) : siL a ≤ siH b ∧ siH a < siL b + 1000 := by
  have k : siL a ≤ siH b := by
    rcases Int.lt_or_le a 0 with c1 | c1
    · obtain ⟨e1, _⟩ := si_neg (-a)
      rw [Int.neg_neg] at e1
      rcases Int.lt_or_le b 0 with c2 | c2
      · obtain ⟨_, e2⟩ := si_neg (-b)
        rw [Int.neg_neg] at e2
        have := si_more0 (a := -b) (b := -a) (by omega) (by omega) (by omega)
        omega
      · have n1 := siH_nn (b := -a) (by omega) (by omega)
        have n2 := siH_nn c2 h1
        omega
    · exact si_more0 c1 h h1
  have f1 := (si_enc a).2.d
  have f2 := (si_enc b).2.d
  exact ⟨k, by omega⟩
/-! ### tangents -/
theorem qd_both (a b : Int) : SM.qd (-a) (-b) = SM.qd a b := by
  unfold SM.qd
  rcases Int.lt_trichotomy b 0 with h | h | h
  · rw [if_pos h, if_neg (by omega)]
  · subst h
    rw [if_neg (by decide), if_neg (by decide)]
    unfold NM.down
    simp
  · rw [if_pos (show -b < 0 by omega), if_neg (show ¬ b < 0 by omega), Int.neg_neg, Int.neg_neg]
theorem qu_both (a b : Int) : SM.qu (-a) (-b) = SM.qu a b := by
  unfold SM.qu
  rcases Int.lt_trichotomy b 0 with h | h | h
  · rw [if_pos h, if_neg (by omega)]
  · subst h
    rw [if_neg (by decide), if_neg (by decide)]
    unfold NM.up
    simp
  · rw [if_pos (show -b < 0 by omega), if_neg (show ¬ b < 0 by omega), Int.neg_neg, Int.neg_neg]
theorem divLo_both (sl sh tl th : Int) : SM.divLo (-sh) (-sl) (-th) (-tl) = SM.divLo sl sh tl th := by
  unfold SM.divLo
  rw [qd_both, qd_both, qd_both, qd_both]
  omega
theorem divHi_both (sl sh tl th : Int) : SM.divHi (-sh) (-sl) (-th) (-tl) = SM.divHi sl sh tl th := by
  unfold SM.divHi
  rw [qu_both, qu_both, qu_both, qu_both]
  omega
theorem okS_negEq (l h : Int) : SM.okS (-h) (-l) = SM.okS l h := by
  unfold SM.okS
  exact decide_eq_decide.2 (by omega)
theorem apart_negEq (l h : Int) : SM.apartB (-h) (-l) = SM.apartB l h := by
  refine SM.bool_eq (fun k => SM.apart_mk ?_) (fun k => SM.apart_mk ?_)
  · have := SM.apart_of k; omega
  · have := SM.apart_of k; omega
theorem divB_both (sl sh tl th : Int) : SM.divB (-sh) (-sl) (-th) (-tl) = SM.divB sl sh tl th := by
  unfold SM.divB SM.bothB
  rw [divLo_both, divHi_both, okS_negEq, okS_negEq, apart_negEq]
theorem divB_negEq {sl sh tl th : Int} (h : SM.divB sl sh tl th = true) : SM.divB (-sh) (-sl) tl th = true := SM.div_turn h
/-- A tangent times the cosine, and the sine. -/
theorem tan_meet {sl sh tl th : Int} (h : SM.divB sl sh tl th = true) (g : SM.mulB (SM.divLo sl sh tl th) (SM.divHi sl sh tl th) tl th = true) (lh : sl ≤ sh) :
    SM.mulLo (SM.divLo sl sh tl th) (SM.divHi sl sh tl th) tl th ≤ sh ∧ sl ≤ SM.mulHi (SM.divLo sl sh tl th) (SM.divHi sl sh tl th) tl th := by
  have := SM.within_of (SM.div_back h g)
  omega
/-! ### arcs -/
theorem psin_le (J : Nat) {y : Rat} (y0 : 0 ≤ y) (y1 : y ≤ 1) : psin J y ≤ y := by
  have h := al_lst y J 1 1 2
  have r0 := sq_nonneg y
  have r1 : y * y ≤ 1 := by have := mul_le y1 y0; grind
  have b := (al_bd r0 r1 J (1 * y ^ 1) 2 (by rw [Rat.pow_succ, Rat.pow_zero]; grind) (by decide)).2
  unfold psin
  rw [← h]
  have e : (1 : Rat) * y ^ 1 = y := by rw [Rat.pow_succ, Rat.pow_zero]; grind
  rw [e] at b ⊢
  exact b
theorem xx_arc {h : Int} (h0 : 0 ≤ h) (h1 : h ≤ 32400000) : xx (2 * h.toNat) ≤ 785398164 / 1000000000 := by
  obtain ⟨_, a, b, _⟩ := arc_bd h0 h1
  have c1 : xx (2 * (32400000 : Int).toNat) ≤ 785398164 / 1000000000 := by decide +kernel
  have h2 := TS.cast_le (show 2 * h.toNat ≤ 2 * (32400000 : Int).toNat by omega)
  have h3 := mul_le h2 (x := q) (by have := TS.q_pos; grind)
  unfold xx at *
  grind
/-- The sine of an arc is not above it. -/
theorem sine_arc {h : Int} (h0 : 0 ≤ h) (h1 : h ≤ 32400000) : siL h ≤ aH h := by
  obtain ⟨i, _⟩ := si_enc h
  have l := i.lo
  have e : h % 259200000 = h := by omega
  unfold S at l
  rw [e] at l
  have x1 := xx_arc h0 h1
  have x0 := xx_nn (2 * h.toNat)
  have s1 := s_le (2 * h.toNat) (by grind)
  have p1 := psin_le 8 x0 (by grind)
  have ar := (arc_x (h := h) h0).2
  have tn : tiny ≤ 1 / 1000000000000 := by decide +kernel
  generalize s (2 * h.toNat) = v at *
  generalize xx (2 * h.toNat) = y at *
  exact le_of_near (e := 1 / 2) (by grind) (by grind)
end SI
end Go.Proofs.Ytlkompbigpbefab
namespace Go.Proofs.Ytlkompbigpbefab
namespace SI
set_option linter.unusedVariables false
open TS (mul_le sq_nonneg ev neg ab ab_bd q c s xx)
/-! ### the row of a cosine near a quarter -/
theorem row_stop {f : Nat} {low high d u x n : Int} {less : Bool} (hu : 0 < u) (hn : n < 40) (h1 : NM.up (tU u (tU x x)) (n * (n + 1)) = 1) (h2 : NM.down (tD d (tD x x)) (n * (n + 1)) = 0) : row (f + 1) low high d u less x n = (low - 1, high + 1) := by
  simp only [row]
  rw [if_pos ⟨hu, hn⟩, if_pos ⟨h1, h2⟩]
theorem row_on {f : Nat} {low high d u x n : Int} (hu : 0 < u) (hn : n < 40) (h : ¬ (NM.up (tU u (tU x x)) (n * (n + 1)) = 1 ∧ NM.down (tD d (tD x x)) (n * (n + 1)) = 0)) :
    row (f + 1) low high d u true x n = row f (low - NM.up (tU u (tU x x)) (n * (n + 1))) (high - NM.down (tD d (tD x x)) (n * (n + 1))) (NM.down (tD d (tD x x)) (n * (n + 1))) (NM.up (tU u (tU x x)) (n * (n + 1))) false x (n + 2) := by
  simp only [row]
  rw [if_pos ⟨hu, hn⟩, if_neg h]
theorem tD9 (X : Int) : tD 1000000000 X = X := by unfold tD NM.down; omega
theorem tU9 (X : Int) : tU 1000000000 X = X := by unfold tU NM.up; omega
/-- So near the row stops at once. -/
theorem rowC_one {x : Int} (h0 : 1 ≤ x) (h1 : x * x < 2000000000) : rowC x = (999999999, 1000000001) := by
  have p : 1 ≤ x * x := by have := Int.mul_le_mul h0 h0 (by decide) (by omega); omega
  unfold rowC
  rw [row_stop (by decide) (by decide) ?_ ?_]
  · rfl
  · rw [tU9]
    unfold tU NM.up
    generalize x * x = z at *
    omega
  · rw [tD9]
    unfold tD NM.down
    generalize x * x = z at *
    omega
/-- A little further it stops behind one term. -/
theorem rowC_two {x : Int} (h1 : 2000000000 ≤ x * x) (h2 : x * x ≤ 30000000000000) : (rowC x).1 = 1000000000 - NM.up (tU x x) 2 - 1 := by
  unfold rowC
  have t1 : 2 ≤ tU x x ∧ tU x x ≤ 30000 := by unfold tU NM.up; generalize x * x = z at *; omega
  have t2 : 2 ≤ tD x x ∧ tD x x ≤ 30000 := by unfold tD NM.down; generalize x * x = z at *; omega
  have e2 : (1 : Int) * (1 + 1) = 2 := by decide
  have e12 : (1 + 2 : Int) * (1 + 2 + 1) = 12 := by decide
  rw [row_on (by decide) (by decide) ?_]
  · rw [tU9, tD9, e2]
    have u1 : 1 ≤ NM.up (tU x x) 2 ∧ NM.up (tU x x) 2 ≤ 15000 := by unfold NM.up; omega
    have d1 : 1 ≤ NM.down (tD x x) 2 ∧ NM.down (tD x x) 2 ≤ 15000 := by unfold NM.down; omega
    have m1 := Int.mul_le_mul u1.2 t1.2 (by omega) (by decide)
    have m2 : 1 ≤ NM.up (tU x x) 2 * tU x x := by have := Int.mul_le_mul u1.1 t1.1 (by omega) (by omega); omega
    have m3 := Int.mul_le_mul d1.2 t2.2 (by omega) (by decide)
    have m4 : 0 ≤ NM.down (tD x x) 2 * tD x x := Int.mul_nonneg (by omega) (by omega)
    have s1 : NM.up (tU (NM.up (tU x x) 2) (tU x x)) ((1 + 2) * (1 + 2 + 1)) = 1 := by
      rw [e12]
      rw [show tU (NM.up (tU x x) 2) (tU x x) = NM.up (NM.up (tU x x) 2 * tU x x) 1000000000 from rfl]
      generalize NM.up (tU x x) 2 * tU x x = z at *
      unfold NM.up
      omega
    have s2 : NM.down (tD (NM.down (tD x x) 2) (tD x x)) ((1 + 2) * (1 + 2 + 1)) = 0 := by
      rw [e12]
      rw [show tD (NM.down (tD x x) 2) (tD x x) = NM.down (NM.down (tD x x) 2 * tD x x) 1000000000 from rfl]
      generalize NM.down (tD x x) 2 * tD x x = z at *
      unfold NM.down
      omega
    rw [row_stop (by omega) (by decide) s1 s2]
  · rw [tU9, tD9, e2]
    intro hc
    have := hc.2
    unfold NM.down at this
    omega
theorem aH_mono {g k : Int} (h : g ≤ k) : aH g ≤ aH k := by unfold aH NM.up; omega
theorem aL_pos {g : Int} (h : 1 ≤ g) : 1 ≤ aL g := by unfold aL NM.down; omega
theorem sq_int {a b : Int} (h0 : 0 ≤ a) (h : a ≤ b) : a * a ≤ b * b := Int.mul_le_mul h h h0 (by omega)
/-- Near a quarter the upper end is one. -/
theorem near_top {g : Int} (h0 : 1 ≤ g) (h1 : g ≤ 32400000) (h : aH g * aH g < 2000000000) : nrH g = 1000000000 ∧ nrL g = 999999999 := by
  obtain ⟨_, a, _, _⟩ := arc_bd (h := g) (by omega) h1
  have l := aL_pos h0
  have q1 := sq_int (show 0 ≤ aL g by omega) a
  unfold nrH nrL
  rw [rowC_one l (by omega), rowC_one (show 1 ≤ aH g by omega) h]
  exact ⟨by decide, rfl⟩
/-- Else the lower end is lower by one. -/
theorem near_low {g : Int} (h0 : 1 ≤ g) (h1 : g ≤ 200000) (h : 2000000000 ≤ aH g * aH g) : (nrL g : Rat) + 1 ≤ 1000000000 * c (2 * g.toNat) + 1 / 1000 := by
  have b : aH g ≤ 4848137 := by unfold aH NM.up; omega
  have a0 : 0 ≤ aH g := by have := arc_bd (h := g) (by omega) (by omega); omega
  have q1 := sq_int a0 b
  have e := rowC_two h (by omega)
  have ar := arc_of (h := g) (by omega) (by omega)
  obtain ⟨y0, y1, y2, y3, y4⟩ := ar
  have x0 := xx_nn (2 * g.toNat)
  have x1 : xx (2 * g.toNat) ≤ 1 := by grind
  have cg := c_ge _ x1
  have pm := pcos7_mono x0 y2 (by grind)
  have um := un_mul (aH g)
  have us := (un_sq a0 (by omega)).1
  -- the row of the cosine begins with one less half the square
  have pl : 1 - 1 / 2 * (un (aH g) * un (aH g)) ≤ pcos 7 (un (aH g)) := by
    rw [pcos_al]
    have r0 := sq_nonneg (un (aH g))
    have r1 := (un_sq a0 (by omega)).2.2
    have h2 := al_lr (un (aH g) * un (aH g)) 7 1 1
    rw [← show (1 : Rat) * ev 0 (lr 7 1) (un (aH g) * un (aH g)) = ev 0 (lr 7 1) (un (aH g) * un (aH g)) by grind, ← h2]
    have e7 : al (un (aH g) * un (aH g)) 7 1 1 = 1 - al (un (aH g) * un (aH g)) 6 (1 * (un (aH g) * un (aH g)) / (((1 : Int) * (1 + 1) : Int) : Rat)) (1 + 2) := rfl
    rw [e7]
    have c2 : (((1 : Int) * (1 + 1) : Int) : Rat) = 2 := by decide +kernel
    rw [c2]
    have bd := (al_bd r0 (show un (aH g) * un (aH g) ≤ 1 by grind) 6 (1 * (un (aH g) * un (aH g)) / 2) (1 + 2) (by rw [Rat.div_def]; grind) (by decide)).2
    rw [Rat.div_def] at bd ⊢
    have i2 : (2 : Rat)⁻¹ = 1 / 2 := by decide +kernel
    rw [i2] at bd ⊢
    grind
  have tn : (1000000000 : Rat) * tiny ≤ 1 / 1000 := by decide +kernel
  -- the first term, rounded up
  obtain ⟨t1, _⟩ := up_bd (aH g * aH g) (m := 1000000000) (by decide)
  obtain ⟨t2, _⟩ := up_bd (tU (aH g) (aH g)) (m := 2) (by decide)
  rw [cast_mul] at t1
  have c9 : ((1000000000 : Int) : Rat) = 1000000000 := rfl
  have c2 : ((2 : Int) : Rat) = 2 := rfl
  have c1 : ((1 : Int) : Rat) = 1 := rfl
  rw [c9] at t1
  rw [c2] at t2
  change _ ≤ (tU (aH g) (aH g) : Rat) * 1000000000 at t1
  have en : (nrL g : Rat) = 1000000000 - (NM.up (tU (aH g) (aH g)) 2 : Rat) - 1 := by
    rw [show nrL g = 1000000000 - NM.up (tU (aH g) (aH g)) 2 - 1 from e, cast_sub, cast_sub, c9, c1]
  rw [en]
  clear en e q1 b h h0 h1 y0 y1 y2 y3 y4 x0 x1 um
  generalize (NM.up (tU (aH g) (aH g)) 2 : Rat) = U2 at *
  generalize (tU (aH g) (aH g) : Rat) = U1 at *
  generalize un (aH g) * un (aH g) = r at *
  generalize (aH g : Rat) * (aH g : Rat) = z at *
  generalize pcos 7 (un (aH g)) = p1 at *
  generalize pcos 7 (xx (2 * g.toNat)) = p2 at *
  generalize c (2 * g.toNat) = cv at *
  grind
/-! ### a part further -/
theorem s_part {n : Nat} : s (n + 4) = s n + 2 * (c (n + 2) * s 2) := by
  have e1 := (TS.add (n + 2) 2).1
  have e2 := (@lack n 2).1
  have q1 : n + 2 + 2 = n + 4 := by omega
  rw [q1] at e1
  rw [e1, e2]
  grind
theorem s2_low : (24 / 1000000000 : Rat) ≤ s 2 := by decide +kernel
/-- Not near a quarter a cosine is not small. -/
theorem c_not {N : Nat} (hN : N = 64800000) {M : Nat} (h : M + 379998 ≤ N + N) : 45 / 10000 ≤ c M := by
  have xq : ∀ n : Nat, n ≤ N → xx n ≤ 1 := fun n hn => by
    have h1 : xx N ≤ 1 := by subst hN; decide +kernel
    have h2 := TS.cast_le hn
    have h3 := mul_le h2 (x := q) (by have := TS.q_pos; grind)
    unfold xx at *
    grind
  by_cases k : M ≤ N
  · have h1 := c_ge M (xq M k)
    have h2 := pcos7_mono (a := xx M) (b := 1) (xx_nn M) (xq M k) (by grind)
    have h3 : (45 / 10000 : Rat) ≤ pcos 7 1 - tiny := by decide +kernel
    grind
  · obtain ⟨_, g1, g2⟩ := lack_q hN (m := M) (k := N + N - M) (by omega)
    have h1 := s_ge (N + N - M) (xq _ (by omega))
    have x2 : xx 379998 ≤ xx (N + N - M) := by
      have h2 := TS.cast_le (show 379998 ≤ N + N - M by omega)
      have h3 := mul_le h2 (x := q) (by have := TS.q_pos; grind)
      unfold xx
      grind
    have h2 := psin7_mono (a := xx 379998) (b := xx (N + N - M)) (xx_nn _) x2 (xq _ (by omega))
    have h3 : (46 / 10000 : Rat) ≤ psin 7 (xx 379998) - tiny := by decide +kernel
    have h4 : 2 * eps ≤ 1 / 10000 := by decide +kernel
    grind
theorem si_strict0 {a b : Int} (h0 : 0 ≤ a) (h : a < b) (h1 : b ≤ 32400000) : siL (2 * a) < siH (2 * b) := by
  obtain ⟨N, hN⟩ : ∃ N : Nat, N = 64800000 := ⟨_, rfl⟩
  obtain ⟨i1, _⟩ := si_enc (2 * a)
  obtain ⟨i2, _⟩ := si_enc (2 * b)
  have l := i1.lo
  have u := i2.hi
  have ea : 2 * a % 259200000 = 2 * a := by omega
  have eb : 2 * b % 259200000 = 2 * b := by omega
  have c1 : ((1 : Int) : Rat) = 1 := rfl
  by_cases nr : a ≤ 32304999
  · have g := s_grow hN (a := (2 * a).toNat + 2) (b := (2 * b).toNat) (by omega) (by omega)
    have e4 : 2 * ((2 * a).toNat + 2) = 2 * (2 * a).toNat + 4 := by omega
    rw [e4, s_part] at g
    have cn := c_not hN (M := 2 * (2 * a).toNat + 2) (by omega)
    have s2 := s2_low
    have m := mul_le cn (x := s 2) (by grind)
    unfold S at l u
    rw [ea] at l
    rw [eb] at u
    unfold eps at g
    have : siL (2 * a) + 1 ≤ siH (2 * b) := by
      refine le_of_near (e := 95 / 100) ?_ (by grind)
      rw [cast_add, c1]
      clear hN i1 i2 ea eb e4
      generalize c (2 * (2 * a).toNat + 2) * s 2 = w at *
      generalize s (2 * (2 * a).toNat) = x at *
      generalize s (2 * (2 * b).toNat) = y at *
      generalize s 2 = z at *
      grind
    omega
  · -- near a quarter
    have q1 : siL (2 * a) = nrL (64800000 - 2 * a) := by
      unfold siL
      rw [ea, if_neg (by omega)]
      unfold haL
      rw [if_neg (by omega)]
      unfold quL
      rw [if_neg (by omega), if_neg (by omega), if_neg (by omega), if_neg (by omega)]
    rcases Int.lt_or_le (aH (64800000 - 2 * a) * aH (64800000 - 2 * a)) 2000000000 with z | z
    · rw [q1, (near_top (by omega) (by omega) z).2]
      by_cases z2 : b = 32400000
      · subst z2
        have := ex3.2
        have e : (2 : Int) * 32400000 = 64800000 := by decide
        rw [e, this]
        decide
      · have q2 : siH (2 * b) = nrH (64800000 - 2 * b) := by
          unfold siH
          rw [eb, if_neg (by omega)]
          unfold haH
          rw [if_neg (by omega)]
          unfold quH
          rw [if_neg (by omega), if_neg (by omega), if_neg (by omega), if_neg (by omega)]
        have m := aH_mono (show 64800000 - 2 * b ≤ 64800000 - 2 * a by omega)
        have p := arc_bd (h := 64800000 - 2 * b) (by omega) (by omega)
        have sq := sq_int (show 0 ≤ aH (64800000 - 2 * b) by omega) m
        rw [q2, (near_top (by omega) (by omega) (by omega)).1]
        decide
    · have k := near_low (g := 64800000 - 2 * a) (by omega) (by omega) z
      have g := s_grow hN (a := (2 * a).toNat) (b := (2 * b).toNat) (by omega) (by omega)
      obtain ⟨⟨n1, n2⟩, _⟩ := lack_q hN (m := 2 * (2 * a).toNat) (k := 2 * (64800000 - 2 * a).toNat) (by omega)
      unfold S at u
      rw [eb] at u
      rw [q1]
      unfold eps at g n1 n2
      have : nrL (64800000 - 2 * a) + 1 ≤ siH (2 * b) := by
        refine le_of_near (e := 1 / 2) ?_ (by grind)
        rw [cast_add, c1]
        clear hN i1 i2 ea eb q1 z l
        generalize s (2 * (2 * a).toNat) = x at *
        generalize s (2 * (2 * b).toNat) = y at *
        generalize c (2 * (64800000 - 2 * a).toNat) = w at *
        grind
      omega
/-- A greater angle has a greater sine, as far as the ends tell. -/
theorem si_strict {a b : Int} (h0 : -32400000 ≤ a) (h : a < b) (h1 : b ≤ 32400000) : siL (2 * a) < siH (2 * b) := by
  have z0 := ex0
  rcases Int.lt_or_le a 0 with c1 | c1
  · obtain ⟨e1, _⟩ := si_neg (2 * -a)
    have k1 : -(2 * -a) = 2 * a := by omega
    rw [k1] at e1
    rcases Int.lt_or_le b 0 with c2 | c2
    · obtain ⟨_, e2⟩ := si_neg (2 * -b)
      have k2 : -(2 * -b) = 2 * b := by omega
      rw [k2] at e2
      have := si_strict0 (a := -b) (b := -a) (by omega) (by omega) (by omega)
      omega
    · have p := si_strict0 (a := 0) (b := -a) (by omega) (by omega) (by omega)
      have e : (2 : Int) * 0 = 0 := by decide
      rw [e] at p
      by_cases c3 : b = 0
      · subst c3
        rw [e]
        omega
      · have p2 := si_strict0 (a := 0) (b := b) (by omega) (by omega) h1
        rw [e] at p2
        omega
  · exact si_strict0 c1 h h1
end SI
end Go.Proofs.Ytlkompbigpbefab
namespace Go.Proofs.Ytlkompbigpbefab
namespace SI
set_option linter.unusedVariables false
/-- Two angles halved by a question, so many times at most. -/
def hv (f : Int → Bool) : Nat → Int → Int → Int × Int
  | 0, l, h => (l, h)
  | n + 1, l, h => if 1 < h - l then (match f (NM.down (l + h) 2) with | true => hv f n (NM.down (l + h) 2) h | false => hv f n l (NM.down (l + h) 2)) else (l, h)
theorem mid_bd {l h : Int} (c : 1 < h - l) : l < NM.down (l + h) 2 ∧ NM.down (l + h) 2 < h := by unfold NM.down; omega
theorem hv_end {f : Int → Bool} {n : Nat} {l h : Int} (c : ¬ 1 < h - l) : hv f n l h = (l, h) := by
  cases n with
  | zero => rfl
  | succ n => simp only [hv]; rw [if_neg c]
theorem hv_yes {f : Int → Bool} {n : Nat} {l h : Int} (c : 1 < h - l) (e : f (NM.down (l + h) 2) = true) : hv f (n + 1) l h = hv f n (NM.down (l + h) 2) h := by
  simp only [hv]; rw [if_pos c, e]
theorem hv_not {f : Int → Bool} {n : Nat} {l h : Int} (c : 1 < h - l) (e : f (NM.down (l + h) 2) = false) : hv f (n + 1) l h = hv f n l (NM.down (l + h) 2) := by
  simp only [hv]; rw [if_pos c, e]
theorem hv_inv {f : Int → Bool} {P Q : Int → Prop} (hP : ∀ m, f m = true → P m) (hQ : ∀ m, f m = false → Q m) : ∀ (n : Nat) (l h : Int), l ≤ h → P l → Q h → l ≤ (hv f n l h).1 ∧ (hv f n l h).1 ≤ (hv f n l h).2 ∧ (hv f n l h).2 ≤ h ∧ P (hv f n l h).1 ∧ Q (hv f n l h).2 := by
  intro n
  induction n with
  | zero => intro l h c p q; exact ⟨Int.le_refl _, c, Int.le_refl _, p, q⟩
  | succ n ih =>
    intro l h c p q
    by_cases k : 1 < h - l
    · have m := mid_bd k
      cases e : f (NM.down (l + h) 2) with
      | true =>
        rw [hv_yes k e]
        have := ih (NM.down (l + h) 2) h (by omega) (hP _ e) q
        exact ⟨by omega, this.2.1, this.2.2.1, this.2.2.2⟩
      | false =>
        rw [hv_not k e]
        have := ih l (NM.down (l + h) 2) (by omega) p (hQ _ e)
        exact ⟨this.1, this.2.1, by omega, this.2.2.2⟩
    · rw [hv_end k]
      exact ⟨Int.le_refl _, c, Int.le_refl _, p, q⟩
/-! ### the angle of a sine -/
def sbL (x : Int) : Int := (hv (fun m => decide (siH (2 * m) ≤ x)) 27 (-32400000) 32400000).1
def sbH (x : Int) : Int := (hv (fun m => decide (siL (2 * m) < x)) 27 (-32400000) 32400000).2
structure Sb (x L H : Int) : Prop where
  lo : siH (2 * L) ≤ x
  hi : x ≤ siL (2 * H)
  l0 : -32400000 ≤ L
  l1 : L ≤ 32400000
  h0 : -32400000 ≤ H
  h1 : H ≤ 32400000
theorem at_q : siL (2 * 32400000) = 1000000000 ∧ siH (2 * 32400000) = 1000000000 := ex3
theorem at_mq : siL (2 * -32400000) = -1000000000 ∧ siH (2 * -32400000) = -1000000000 := by
  obtain ⟨a, b⟩ := si_neg 64800000
  obtain ⟨c, d⟩ := ex3
  have e : (2 : Int) * -32400000 = -64800000 := by decide
  rw [e, a, b, c, d]
  decide
theorem sb_of {x : Int} (x0 : -1000000000 ≤ x) (x1 : x ≤ 1000000000) : Sb x (sbL x) (sbH x) := by
  have a := hv_inv (f := fun m => decide (siH (2 * m) ≤ x)) (P := fun m => siH (2 * m) ≤ x) (Q := fun _ => True) (fun m e => of_decide_eq_true e) (fun _ _ => trivial) 27 (-32400000) 32400000 (by decide) (by have := at_mq.2; omega) trivial
  have b := hv_inv (f := fun m => decide (siL (2 * m) < x)) (P := fun _ => True) (Q := fun m => x ≤ siL (2 * m)) (fun _ _ => trivial) (fun m e => by have := of_decide_eq_false e; omega) 27 (-32400000) 32400000 (by decide) trivial (by have := at_q.1; omega)
  exact ⟨a.2.2.2.1, b.2.2.2.2, a.1, by have := a.2.1; have := a.2.2.1; unfold sbL; omega, by have := b.1; have := b.2.1; unfold sbH; omega, b.2.2.1⟩
/-- A greater number's fan does not end ahead of a lesser one's. -/
theorem sb_meet {x y : Int} (x0 : -1000000000 ≤ x) (h : x ≤ y) (y1 : y ≤ 1000000000) : sbL x ≤ sbH y := by
  have a := sb_of x0 (show x ≤ 1000000000 by omega)
  have b := sb_of (show -1000000000 ≤ y by omega) y1
  by_cases c : sbL x ≤ sbH y
  · exact c
  · have := si_strict b.h0 (show sbH y < sbL x by omega) a.l1
    have := a.lo
    have := b.hi
    omega
/-- An angle is in the fans of its sine. -/
theorem sb_angle {a : Int} (a0 : -32400000 ≤ a) (a1 : a ≤ 32400000) : sbL (siL (2 * a)) ≤ a ∧ a ≤ sbH (siH (2 * a)) := by
  obtain ⟨_, f1, f2, f3, _⟩ := si_enc (2 * a)
  have p := sb_of (x := siL (2 * a)) f1 (by omega)
  have q := sb_of (x := siH (2 * a)) (by omega) f3
  constructor
  · by_cases c : sbL (siL (2 * a)) ≤ a
    · exact c
    · have := si_strict a0 (show a < sbL (siL (2 * a)) by omega) p.l1
      have := p.lo
      omega
  · by_cases c : a ≤ sbH (siH (2 * a))
    · exact c
    · have := si_strict q.h0 (show sbH (siH (2 * a)) < a by omega) a1
      have := q.hi
      omega
theorem si_back (a : Int) : siL (2 * -a) = -siH (2 * a) ∧ siH (2 * -a) = -siL (2 * a) := by
  have e : 2 * -a = -(2 * a) := by omega
  rw [e]
  exact si_neg _
/-- Turned about fans have the angle in common. -/
theorem sb_neg {x : Int} (x0 : -1000000000 ≤ x) (x1 : x ≤ 1000000000) : -sbH x ≤ sbH (-x) ∧ sbL (-x) ≤ -sbL x := by
  have p := sb_of x0 x1
  have q := sb_of (x := -x) (by omega) (by omega)
  have b1 := si_back (sbH x)
  have b2 := si_back (sbL x)
  constructor
  · by_cases c : -sbH x ≤ sbH (-x)
    · exact c
    · have := si_strict q.h0 (show sbH (-x) < -sbH x by omega) (by have := p.h0; omega)
      have := q.hi
      have := p.hi
      omega
  · by_cases c : sbL (-x) ≤ -sbL x
    · exact c
    · have := si_strict (show -32400000 ≤ -sbL x by have := p.l1; omega) (show -sbL x < sbL (-x) by omega) q.l1
      have := q.lo
      have := p.lo
      omega
/-- A cosine of what is lacking to a quarter. -/
theorem cos_lack (a : Int) : siL (2 * (32400000 - a) + 64800000) = siL (2 * a) ∧ siH (2 * (32400000 - a) + 64800000) = siH (2 * a) := by
  have e : 2 * (32400000 - a) + 64800000 = 129600000 - 2 * a := by omega
  rw [e]
  exact si_lack _
theorem cos_at (a : Int) : siL (2 * a + 64800000) = siL (2 * (32400000 - a)) ∧ siH (2 * a + 64800000) = siH (2 * (32400000 - a)) := by
  have := cos_lack (32400000 - a)
  have e : 32400000 - (32400000 - a) = a := by omega
  rwa [e] at this
/-! ### the angle of a place -/
def sdL (u r m : Int) : Int := NM.down (u * siL (2 * m + 64800000)) 1000000000 - NM.up (r * siH (2 * m)) 1000000000
def sdH (u r m : Int) : Int := NM.up (u * siH (2 * m + 64800000)) 1000000000 - NM.down (r * siL (2 * m)) 1000000000
def wqL (u r : Int) : Int := (hv (fun m => decide (0 ≤ sdL u r m)) 27 0 32400000).1
def wqH (u r : Int) : Int := (hv (fun m => decide (0 ≤ sdL u r m ∨ 0 < sdH u r m)) 27 0 32400000).2
theorem sdL_of {u r m : Int} (h : 0 ≤ sdL u r m) : r * siH (2 * m) ≤ u * siL (2 * m + 64800000) := by
  unfold sdL NM.down NM.up at h
  omega
theorem sdH_of {u r m : Int} (h : ¬ 0 < sdH u r m) : u * siH (2 * m + 64800000) ≤ r * siL (2 * m) := by
  unfold sdH NM.down NM.up at h
  omega
structure Wq (u r L H : Int) : Prop where
  lo : r * siH (2 * L) ≤ u * siL (2 * L + 64800000)
  hi : u * siH (2 * H + 64800000) ≤ r * siL (2 * H)
  l0 : 0 ≤ L
  l1 : L ≤ 32400000
  h0 : 0 ≤ H
  h1 : H ≤ 32400000
theorem wq_of {u r : Int} (u0 : 0 ≤ u) (r0 : 0 ≤ r) : Wq u r (wqL u r) (wqH u r) := by
  have z := ex0
  have t := ex3
  have s6 := ex6
  have e1 : (2 : Int) * 0 = 0 := by decide
  have e2 : (2 : Int) * 0 + 64800000 = 64800000 := by decide
  have e3 : (2 : Int) * 32400000 + 64800000 = 129600000 := by decide
  have e4 : (2 : Int) * 32400000 = 64800000 := by decide
  have a := hv_inv (f := fun m => decide (0 ≤ sdL u r m)) (P := fun m => r * siH (2 * m) ≤ u * siL (2 * m + 64800000)) (Q := fun _ => True) (fun m e => sdL_of (of_decide_eq_true e)) (fun _ _ => trivial) 27 0 32400000 (by decide) (by rw [e2, e1, z.2, t.1]; omega) trivial
  have b := hv_inv (f := fun m => decide (0 ≤ sdL u r m ∨ 0 < sdH u r m)) (P := fun _ => True) (Q := fun m => u * siH (2 * m + 64800000) ≤ r * siL (2 * m)) (fun _ _ => trivial) (fun m e => sdH_of (fun c => of_decide_eq_false e (Or.inr c))) 27 0 32400000 (by decide) trivial (by rw [e3, e4, s6.2, t.1]; omega)
  exact ⟨a.2.2.2.1, b.2.2.2.2, a.1, by have := a.2.1; have := a.2.2.1; unfold wqL; omega, by have := b.1; have := b.2.1; unfold wqH; omega, b.2.2.1⟩
/-- A place cannot lie below one angle and above a greater one. -/
theorem apart {u r a b : Int} (u0 : 0 ≤ u) (r0 : 0 ≤ r) (ur : 0 < u ∨ 0 < r) (a0 : 0 ≤ a) (h : a < b) (b1 : b ≤ 32400000) (h1 : u * siH (2 * a + 64800000) ≤ r * siL (2 * a)) (h2 : r * siH (2 * b) ≤ u * siL (2 * b + 64800000)) : False := by
  have s := si_strict (show -32400000 ≤ a by omega) h b1
  have c := si_strict (show -32400000 ≤ 32400000 - b by omega) (show 32400000 - b < 32400000 - a by omega) (by omega)
  rw [← (cos_at b).1, ← (cos_at a).2] at c
  generalize siH (2 * a + 64800000) = ca at *
  generalize siL (2 * a) = sa at *
  generalize siH (2 * b) = sb at *
  generalize siL (2 * b + 64800000) = cb at *
  have m1 := Int.mul_le_mul_of_nonneg_left (show sa ≤ sb by omega) r0
  have m2 := Int.mul_le_mul_of_nonneg_left (show cb ≤ ca by omega) u0
  rcases ur with k | k
  · have := Int.mul_lt_mul_of_pos_left c k
    omega
  · have := Int.mul_lt_mul_of_pos_left s k
    omega
theorem wq_le {u r : Int} (u0 : 0 ≤ u) (r0 : 0 ≤ r) (ur : 0 < u ∨ 0 < r) : wqL u r ≤ wqH u r := by
  have p := wq_of u0 r0
  by_cases c : wqL u r ≤ wqH u r
  · exact c
  · exact (apart u0 r0 ur p.h0 (show wqH u r < wqL u r by omega) p.l1 p.hi p.lo).elim
/-- With up and right changed. -/
theorem wq_swap {u r : Int} (u0 : 0 ≤ u) (r0 : 0 ≤ r) (ur : 0 < u ∨ 0 < r) : 32400000 - wqH r u ≤ wqH u r ∧ wqL u r ≤ 32400000 - wqL r u := by
  have p := wq_of u0 r0
  have q := wq_of r0 u0
  have e : ∀ x : Int, 32400000 - (32400000 - x) = x := fun x => by omega
  constructor
  · by_cases c : 32400000 - wqH r u ≤ wqH u r
    · exact c
    · refine (apart u0 r0 ur p.h0 (show wqH u r < 32400000 - wqH r u by omega) (by have := q.h0; omega) p.hi ?_).elim
      have := q.hi
      rw [(cos_at (wqH r u)).2] at this
      rw [(cos_at (32400000 - wqH r u)).1, e]
      exact this
  · by_cases c : wqL u r ≤ 32400000 - wqL r u
    · exact c
    · refine (apart u0 r0 ur (show 0 ≤ 32400000 - wqL r u by have := q.l1; omega) (show 32400000 - wqL r u < wqL u r by omega) p.l1 ?_ p.lo).elim
      have := q.lo
      rw [(cos_at (wqL r u)).1] at this
      rw [(cos_at (32400000 - wqL r u)).2, e]
      exact this
/-- Twice as far. -/
theorem wq_long {u r : Int} (u0 : 0 ≤ u) (r0 : 0 ≤ r) (ur : 0 < u ∨ 0 < r) : wqL (2 * u) (2 * r) ≤ wqH u r ∧ wqL u r ≤ wqH (2 * u) (2 * r) := by
  have p := wq_of u0 r0
  have q := wq_of (show 0 ≤ 2 * u by omega) (show 0 ≤ 2 * r by omega)
  have l := q.lo
  have h := q.hi
  rw [Int.mul_assoc, Int.mul_assoc] at l h
  constructor
  · by_cases c : wqL (2 * u) (2 * r) ≤ wqH u r
    · exact c
    · exact (apart u0 r0 ur p.h0 (show wqH u r < wqL (2 * u) (2 * r) by omega) q.l1 p.hi (by omega)).elim
  · by_cases c : wqL u r ≤ wqH (2 * u) (2 * r)
    · exact c
    · exact (apart u0 r0 ur q.h0 (show wqH (2 * u) (2 * r) < wqL u r by omega) p.l1 (by omega) p.lo).elim
/-- Straight on, up, and between both. -/
theorem wq_zero {r : Int} (r0 : 0 < r) : wqL 0 r = 0 := by
  have p := wq_of (u := 0) (r := r) (by decide) (by omega)
  by_cases c : wqL 0 r = 0
  · exact c
  · have l := p.lo
    have s := si_strict (a := 0) (b := wqL 0 r) (by decide) (by have := p.l0; omega) p.l1
    have e : (2 : Int) * 0 = 0 := by decide
    rw [e, ex0.1] at s
    have := Int.mul_lt_mul_of_pos_left s r0
    omega
theorem wq_quart {u : Int} (u0 : 0 < u) : wqH u 0 = 32400000 := by
  have p := wq_of (u := u) (r := 0) (by omega) (by decide)
  by_cases c : wqH u 0 = 32400000
  · exact c
  · have l := p.hi
    rw [(cos_at (wqH u 0)).2] at l
    have s := si_strict (a := 0) (b := 32400000 - wqH u 0) (by decide) (by have := p.h1; omega) (by have := p.h0; omega)
    have e : (2 : Int) * 0 = 0 := by decide
    rw [e, ex0.1] at s
    have := Int.mul_lt_mul_of_pos_left s u0
    omega
theorem wq_eighth {n : Int} (n0 : 0 < n) : wqL n n ≤ 16200000 ∧ 16200000 ≤ wqH n n := by
  have p := wq_of (u := n) (r := n) (by omega) (by omega)
  constructor
  · by_cases c : wqL n n ≤ 16200000
    · exact c
    · have l := p.lo
      rw [(cos_at (wqL n n)).1] at l
      have s := si_strict (a := 32400000 - wqL n n) (b := wqL n n) (by have := p.l1; omega) (by omega) p.l1
      have := Int.mul_lt_mul_of_pos_left s n0
      omega
  · by_cases c : 16200000 ≤ wqH n n
    · exact c
    · have l := p.hi
      rw [(cos_at (wqH n n)).2] at l
      have s := si_strict (a := wqH n n) (b := 32400000 - wqH n n) (by have := p.h0; omega) (by omega) (by have := p.h0; omega)
      have := Int.mul_lt_mul_of_pos_left s n0
      omega
end SI
end Go.Proofs.Ytlkompbigpbefab
namespace Go.Proofs.Ytlkompbigpbefab
set_option linter.unusedVariables false
namespace SI
def nn (n0 : Int) (k : Nat) : Int := n0 + 2 * (k : Int)
def dd (first x n0 : Int) : Nat → Int
  | 0 => first
  | k + 1 => NM.down (tD (dd first x n0 k) (tD x x)) (nn n0 k * (nn n0 k + 1))
def uu (first x n0 : Int) : Nat → Int
  | 0 => first
  | k + 1 => NM.up (tU (uu first x n0 k) (tU x x)) (nn n0 k * (nn n0 k + 1))
def les : Nat → Bool
  | 0 => true
  | k + 1 => !les k
def ll (first x n0 : Int) : Nat → Int
  | 0 => first
  | k + 1 => match les k with | true => ll first x n0 k - uu first x n0 (k + 1) | false => ll first x n0 k + dd first x n0 (k + 1)
def hh (first x n0 : Int) : Nat → Int
  | 0 => first
  | k + 1 => match les k with | true => hh first x n0 k - dd first x n0 (k + 1) | false => hh first x n0 k + uu first x n0 (k + 1)
def goes (first x n0 : Int) (k : Nat) : Prop := uu first x n0 k ≠ 0 ∧ nn n0 k < 40
theorem nn_succ (n0 : Int) (k : Nat) : nn n0 (k + 1) = nn n0 k + 2 := by unfold nn; omega
theorem nn0 (n0 : Int) : nn n0 0 = n0 := by unfold nn; omega
theorem dd_succ (first x n0 : Int) (k : Nat) : dd first x n0 (k + 1) = NM.down (tD (dd first x n0 k) (tD x x)) (nn n0 k * (nn n0 k + 1)) := rfl
theorem uu_succ (first x n0 : Int) (k : Nat) : uu first x n0 (k + 1) = NM.up (tU (uu first x n0 k) (tU x x)) (nn n0 k * (nn n0 k + 1)) := rfl
theorem up_nn {a m : Int} (h : 0 ≤ a) (hm : 0 < m) : 0 ≤ NM.up a m := by
  unfold NM.up
  have := Int.ediv_le_ediv hm (show -a ≤ 0 by omega)
  rw [Int.zero_ediv] at this
  omega
theorem up_le_self {U m : Int} (h : 0 ≤ U) (hm : 0 < m) : NM.up U m ≤ U := by
  unfold NM.up
  have h2 : -U ≤ -U / m := by
    refine (Int.le_ediv_iff_mul_le hm).2 ?_
    have := Int.mul_le_mul_of_nonneg_left (show 1 ≤ m by omega) h
    rw [Int.neg_mul]
    omega
  omega
theorem down_le_self {U m : Int} (h : 0 ≤ U) (hm : 0 < m) : NM.down U m ≤ U := Int.ediv_le_self _ h
theorem tt_bd {a b : Int} (a0 : 0 ≤ a) (a1 : a ≤ 1000000000) (b0 : 0 ≤ b) (b1 : b ≤ 1000000000) : 0 ≤ a * b ∧ a * b ≤ 1000000000000000000 ∧ 0 ≤ tD a b ∧ tD a b ≤ 1000000000 ∧ 0 ≤ tU a b ∧ tU a b ≤ 1000000000 := by
  have h0 := Int.mul_nonneg a0 b0
  have h1 := Int.mul_le_mul a1 b1 b0 (by decide)
  unfold tD tU NM.down NM.up
  refine ⟨h0, by omega, by omega, by omega, by omega, by omega⟩
theorem mm_bd {n : Int} (h : 1 ≤ n) (k : n < 40) : 1 ≤ n * (n + 1) ∧ n * (n + 1) ≤ 1560 := by
  have h1 := Int.mul_le_mul (show n ≤ 39 by omega) (show n + 1 ≤ 40 by omega) (by omega) (by decide)
  have h2 := mm_pos h
  omega
structure Tm (d u : Int) : Prop where
  d0 : 0 ≤ d
  d1 : d ≤ 1000000000
  u0 : 0 ≤ u
  u1 : u ≤ 1000000000
theorem tm {first x n0 : Int} (f0 : 0 ≤ first) (f1 : first ≤ 1000000000) (x0 : 0 ≤ x) (x1 : x ≤ 1000000000) (hn : 1 ≤ n0) (k : Nat) : Tm (dd first x n0 k) (uu first x n0 k) := by
  induction k with
  | zero => exact ⟨f0, f1, f0, f1⟩
  | succ k ih =>
    obtain ⟨a, b, c, d⟩ := ih
    have m : 0 < nn n0 k * (nn n0 k + 1) := mm_pos (by unfold nn; omega)
    obtain ⟨_, _, q1, q2, q3, q4⟩ := tt_bd x0 x1 x0 x1
    obtain ⟨_, _, r1, r2, _, _⟩ := tt_bd a b q1 q2
    obtain ⟨_, _, _, _, r3, r4⟩ := tt_bd c d q3 q4
    rw [dd_succ, uu_succ]
    exact ⟨nn_down r1 m, by have := down_le_self r1 m; omega, up_nn r3 m, by have := up_le_self r3 m; omega⟩
theorem sum_bd {first x n0 : Int} (f0 : 0 ≤ first) (f1 : first ≤ 1000000000) (x0 : 0 ≤ x) (x1 : x ≤ 1000000000) (hn : 1 ≤ n0) (k : Nat) :
    -((k : Int) * 1000000000) ≤ ll first x n0 k ∧ ll first x n0 k ≤ ((k : Int) + 1) * 1000000000 ∧ -((k : Int) * 1000000000) ≤ hh first x n0 k ∧ hh first x n0 k ≤ ((k : Int) + 1) * 1000000000 := by
  induction k with
  | zero => simp only [ll, hh]; omega
  | succ k ih =>
    obtain ⟨a, b, c, d⟩ := tm f0 f1 x0 x1 hn (k + 1)
    simp only [ll, hh]
    cases les k <;> simp only [] <;> omega
theorem row_step {f : Nat} {first x n0 : Int} {k : Nat} : row (f + 1) (ll first x n0 k) (hh first x n0 k) (dd first x n0 k) (uu first x n0 k) (les k) x (nn n0 k) =
    if 0 < uu first x n0 k ∧ nn n0 k < 40 then if uu first x n0 (k + 1) = 1 ∧ dd first x n0 (k + 1) = 0 then (ll first x n0 k - 1, hh first x n0 k + 1)
      else row f (ll first x n0 (k + 1)) (hh first x n0 (k + 1)) (dd first x n0 (k + 1)) (uu first x n0 (k + 1)) (les (k + 1)) x (nn n0 (k + 1)) else (ll first x n0 k, hh first x n0 k) := by
  rw [nn_succ]
  simp only [row, ll, hh, les, ← dd_succ, ← uu_succ]
  cases les k <;> rfl
/-- Behind so many terms the row is still this one. -/
def Still (first x n0 : Int) (k : Nat) : Prop := k ≤ 20 ∧ row (21 - k) (ll first x n0 k) (hh first x n0 k) (dd first x n0 k) (uu first x n0 k) (les k) x (nn n0 k) = row 21 first first first first true x n0
theorem still0 (first x n0 : Int) : Still first x n0 0 := ⟨by omega, by rw [nn0]; rfl⟩
theorem still_on {first x n0 : Int} {k : Nat} (hn : 1 ≤ n0) (h : Still first x n0 k) (g : goes first x n0 k) (u0 : 0 ≤ uu first x n0 k) (s : ¬ (uu first x n0 (k + 1) = 1 ∧ dd first x n0 (k + 1) = 0)) : Still first x n0 (k + 1) := by
  obtain ⟨h1, h2⟩ := h
  obtain ⟨g1, g2⟩ := g
  have e : 21 - k = (21 - (k + 1)) + 1 := by omega
  have k2 : k + 1 ≤ 20 := by unfold nn at g2; omega
  rw [e, row_step, if_pos ⟨by omega, g2⟩, if_neg s] at h2
  exact ⟨k2, h2⟩
theorem still_stop {first x n0 : Int} {k : Nat} (h : Still first x n0 k) (g : goes first x n0 k) (u0 : 0 ≤ uu first x n0 k) (s : uu first x n0 (k + 1) = 1 ∧ dd first x n0 (k + 1) = 0) :
    row 21 first first first first true x n0 = (ll first x n0 k - 1, hh first x n0 k + 1) := by
  obtain ⟨h1, h2⟩ := h
  obtain ⟨g1, g2⟩ := g
  have e : 21 - k = (21 - (k + 1)) + 1 := by omega
  rw [e, row_step, if_pos ⟨by omega, g2⟩, if_pos s] at h2
  exact h2.symm
theorem still_end {first x n0 : Int} {k : Nat} (h : Still first x n0 k) (g : ¬ goes first x n0 k) : row 21 first first first first true x n0 = (ll first x n0 k, hh first x n0 k) := by
  obtain ⟨h1, h2⟩ := h
  have e : 21 - k = (21 - (k + 1)) + 1 := by omega
  rw [e, row_step, if_neg (fun c => g ⟨by omega, c.2⟩)] at h2
  exact h2.symm
end SI
end Go.Proofs.Ytlkompbigpbefab
