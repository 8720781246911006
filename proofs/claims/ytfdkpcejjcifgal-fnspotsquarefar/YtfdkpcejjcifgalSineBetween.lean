/-
  Rows as sums of powers; the true sine and cosine between them. No Go text in sight.
-/
import Derived.Test.YtfdkpcejjcifgalSineRow
namespace Go.Proofs.Ytfdkpcejjcifgal
set_option linter.unusedVariables false
namespace SI
open TS (mul_le sq_nonneg ev neg ab ab_bd q c s xx)
/-! ### rows, as sums of powers -/
def lst : Nat → Rat → Int → List Rat
  | 0, a, _ => [a]
  | J + 1, a, n => a :: 0 :: neg (lst J (a / ((n * (n + 1) : Int) : Rat)) (n + 2))
theorem al_lst (y : Rat) : ∀ (J : Nat) (a : Rat) (k : Nat) (n : Int), al (y * y) J (a * y ^ k) n = ev k (lst J a n) y := by
  intro J
  induction J with
  | zero => intro a k n; simp only [al, lst, ev]; grind
  | succ J ih =>
    intro a k n
    have e : a * y ^ k * (y * y) / ((n * (n + 1) : Int) : Rat) = a / ((n * (n + 1) : Int) : Rat) * y ^ (k + 2) := by
      rw [Rat.pow_succ, Rat.pow_succ, Rat.div_def, Rat.div_def]
      grind
    have := ih (a / ((n * (n + 1) : Int) : Rat)) (k + 2) (n + 2)
    simp only [al, lst, ev, TS.ev_neg]
    rw [e, this]
    grind
/-- How far two sums are apart. -/
def tot : List Rat → Rat
  | [] => 0
  | a :: r => ab a + tot r
def dist : List Rat → List Rat → Rat
  | [], B => tot B
  | a :: r, B => match B with
    | [] => ab a + tot r
    | b :: t => ab (a - b) + dist r t
theorem term_bd {a y : Rat} (y0 : 0 ≤ y) (y1 : y ≤ 1) (k : Nat) : a * y ^ k ≤ ab a ∧ -ab a ≤ a * y ^ k := by
  obtain ⟨h1, h2, h3⟩ := ab_bd a
  have p0 := TS.pow_nn y0 k
  have p1 := TS.pow_one_le y0 y1 k
  have g1 := mul_le h1 p0
  have g2 := mul_le h2 p0
  have g3 := mul_le p1 h3
  constructor <;> grind
theorem ev_tot {y : Rat} (y0 : 0 ≤ y) (y1 : y ≤ 1) : ∀ (A : List Rat) (k : Nat), ev k A y ≤ tot A ∧ -tot A ≤ ev k A y := by
  intro A
  induction A with
  | nil => intro k; simp only [ev, tot]; grind
  | cons a r ih =>
    intro k
    have := ih (k + 1)
    have := term_bd (a := a) y0 y1 k
    simp only [ev, tot]
    constructor <;> grind
theorem ev_dist {y : Rat} (y0 : 0 ≤ y) (y1 : y ≤ 1) : ∀ (A B : List Rat) (k : Nat), ev k A y ≤ ev k B y + dist A B ∧ ev k B y ≤ ev k A y + dist A B := by
  intro A
  induction A with
  | nil =>
    intro B k
    have := ev_tot y0 y1 B k
    simp only [ev, dist]
    constructor <;> grind
  | cons a r ih =>
    intro B k
    cases B with
    | nil =>
      have := ev_tot y0 y1 r (k + 1)
      have := term_bd (a := a) y0 y1 k
      simp only [ev, dist]
      constructor <;> grind
    | cons b t =>
      have := ih t (k + 1)
      have := term_bd (a := a - b) y0 y1 k
      simp only [ev, dist]
      constructor <;> grind
/-! ### how a sum of powers grows -/
def slope : Nat → List Rat → Rat
  | _, [] => 0
  | k, a :: r => ab a * (k : Rat) + slope (k + 1) r
theorem pow_grow {a b : Rat} (h0 : 0 ≤ a) (h : a ≤ b) (h1 : b ≤ 1) (k : Nat) : 0 ≤ b ^ k - a ^ k ∧ b ^ k - a ^ k ≤ (k : Rat) * (b - a) := by
  induction k with
  | zero => rw [Rat.pow_zero, Rat.pow_zero]; simp; grind
  | succ k ih =>
    obtain ⟨i0, i1⟩ := ih
    have pb := TS.pow_nn (show 0 ≤ b by grind) k
    have pb1 := TS.pow_one_le (show 0 ≤ b by grind) h1 k
    have pa := TS.pow_nn h0 k
    have K := TS.cast_nn k
    rw [Rat.pow_succ, Rat.pow_succ, TS.cast_succ]
    have e : b ^ k * b - a ^ k * a = b ^ k * (b - a) + (b ^ k - a ^ k) * a := by grind
    rw [e]
    have g1 := mul_le pb1 (x := b - a) (by grind)
    have g2 := mul_le (show a ≤ 1 by grind) (x := b ^ k - a ^ k) i0
    have g3 := Rat.mul_nonneg pb (show 0 ≤ b - a by grind)
    have g4 := Rat.mul_nonneg i0 h0
    constructor <;> grind
theorem ev_grow {a b : Rat} (h0 : 0 ≤ a) (h : a ≤ b) (h1 : b ≤ 1) : ∀ (L : List Rat) (k : Nat), ev k L b - ev k L a ≤ slope k L * (b - a) ∧ -(slope k L * (b - a)) ≤ ev k L b - ev k L a := by
  intro L
  induction L with
  | nil => intro k; simp only [ev, slope]; grind
  | cons l r ih =>
    intro k
    have i := ih (k + 1)
    obtain ⟨p0, p1⟩ := pow_grow h0 h h1 k
    obtain ⟨a1, a2, a3⟩ := ab_bd l
    have g1 := mul_le a1 p0
    have g2 := mul_le a2 p0
    have g3 := mul_le p1 a3
    simp only [ev, slope]
    constructor <;> grind
/-- The sine's row. -/
def psin (J : Nat) (y : Rat) : Rat := ev 1 (lst J 1 2) y
theorem psin7_mono {a b : Rat} (h0 : 0 ≤ a) (h : a ≤ b) (h1 : b ≤ 1) : psin 7 a ≤ psin 7 b := by
  have g := (ev_grow h0 h h1 (lst 7 1 2).tail 2).2
  have k : slope 2 (lst 7 1 2).tail ≤ 1 := by decide +kernel
  have m := mul_le k (x := b - a) (by grind)
  have e : ∀ y, psin 7 y = y + ev 2 (lst 7 1 2).tail y := fun y => by
    show (1 : Rat) * y ^ 1 + ev 2 (lst 7 1 2).tail y = _
    rw [Rat.pow_succ, Rat.pow_zero]
    grind
  rw [e, e]
  grind
theorem psin8_mono {a b : Rat} (h0 : 0 ≤ a) (h : a ≤ b) (h1 : b ≤ 1) : psin 8 a ≤ psin 8 b := by
  have g := (ev_grow h0 h h1 (lst 8 1 2).tail 2).2
  have k : slope 2 (lst 8 1 2).tail ≤ 1 := by decide +kernel
  have m := mul_le k (x := b - a) (by grind)
  have e : ∀ y, psin 8 y = y + ev 2 (lst 8 1 2).tail y := fun y => by
    show (1 : Rat) * y ^ 1 + ev 2 (lst 8 1 2).tail y = _
    rw [Rat.pow_succ, Rat.pow_zero]
    grind
  rw [e, e]
  grind
/-- The cosine's row: by the square. -/
def lr : Nat → Int → List Rat
  | 0, _ => [1]
  | J + 1, n => 1 :: neg ((lr J (n + 2)).map fun a => a * (((n * (n + 1) : Int) : Rat))⁻¹)
theorem ev_scale (t y : Rat) : ∀ (L : List Rat) (k : Nat), ev k (L.map fun a => a * t) y = ev k L y * t := by
  intro L
  induction L with
  | nil => intro k; simp only [List.map, ev]; grind
  | cons a r ih => intro k; simp only [List.map, ev, ih]; grind
theorem ev_shift (y : Rat) : ∀ (L : List Rat) (k : Nat), ev (k + 1) L y = y * ev k L y := by
  intro L
  induction L with
  | nil => intro k; simp only [ev]; grind
  | cons a r ih => intro k; simp only [ev, ih]; rw [Rat.pow_succ]; grind
theorem al_lr (r : Rat) : ∀ (J : Nat) (T : Rat) (n : Int), al r J T n = T * ev 0 (lr J n) r := by
  intro J
  induction J with
  | zero => intro T n; simp only [al, lr, ev, Rat.pow_zero]; grind
  | succ J ih =>
    intro T n
    simp only [al, lr, ev, TS.ev_neg, ih, ev_scale, ev_shift, Rat.pow_zero, Rat.div_def]
    grind
def pcos (J : Nat) (y : Rat) : Rat := ev 0 (lst J 1 1) y
theorem pcos_al (J : Nat) (y : Rat) : pcos J y = ev 0 (lr J 1) (y * y) := by
  have h1 := al_lst y J 1 0 1
  have h2 := al_lr (y * y) J (1 * y ^ 0) 1
  rw [Rat.pow_zero] at h1 h2
  unfold pcos
  rw [← h1, h2]
  grind
theorem sq_mono {a b : Rat} (h0 : 0 ≤ a) (h : a ≤ b) : a * a ≤ b * b := by
  have g1 := mul_le h h0
  have g2 := mul_le h (x := b) (by grind)
  grind
def tail2 (J : Nat) (n : Int) : List Rat := neg ((neg ((lr J (n + 2 + 2)).map fun a => a * ((((n + 2) * (n + 2 + 1) : Int) : Rat))⁻¹)).map fun a => a * (((n * (n + 1) : Int) : Rat))⁻¹)
theorem lr_two (J : Nat) (n : Int) (y : Rat) : ev 0 (lr (J + 2) n) y = 1 - (((n * (n + 1) : Int) : Rat))⁻¹ * y + ev 2 (tail2 J n) y := by
  simp only [lr, tail2, neg, List.map, ev, Rat.pow_zero, Rat.pow_succ]
  grind
theorem pcos_mono (J : Nat) (k : slope 2 (tail2 J 1) ≤ 1 / 2) {a b : Rat} (h0 : 0 ≤ a) (h : a ≤ b) (h1 : b ≤ 1) : pcos (J + 2) b ≤ pcos (J + 2) a := by
  rw [pcos_al, pcos_al, lr_two J, lr_two J]
  have hs := sq_mono h0 h
  have hb : b * b ≤ 1 := by have := sq_mono (show 0 ≤ b by grind) h1; grind
  have g := (ev_grow (sq_nonneg a) hs hb (tail2 J 1) 2).1
  have m := mul_le k (x := b * b - a * a) (by grind)
  have e : (((1 * (1 + 1) : Int) : Rat))⁻¹ = 1 / 2 := by decide +kernel
  rw [e]
  generalize ev 2 (tail2 J 1) (a * a) = u at *
  generalize ev 2 (tail2 J 1) (b * b) = v at *
  generalize slope 2 (tail2 J 1) = w at *
  grind
theorem pcos7_mono {a b : Rat} (h0 : 0 ≤ a) (h : a ≤ b) (h1 : b ≤ 1) : pcos 7 b ≤ pcos 7 a := pcos_mono 5 (by decide +kernel) h0 h h1
theorem pcos8_mono {a b : Rat} (h0 : 0 ≤ a) (h : a ≤ b) (h1 : b ≤ 1) : pcos 8 b ≤ pcos 8 a := pcos_mono 6 (by decide +kernel) h0 h h1
/-! ### the true sine between rows -/
def tiny : Rat := 1 / 10000000000000
theorem xx_nn (n : Nat) : 0 ≤ xx n := Rat.mul_nonneg (by have := TS.q_pos; grind) (TS.cast_nn n)
theorem s_ge (n : Nat) (h : xx n ≤ 1) : psin 7 (xx n) - tiny ≤ s n := by
  have b := TS.b15 n h
  have d := (ev_dist (xx_nn n) h TS.B15 (0 :: lst 7 1 2) 0).2
  have k : dist TS.B15 (0 :: lst 7 1 2) ≤ tiny := by decide +kernel
  have e : ev 0 (0 :: lst 7 1 2) (xx n) = psin 7 (xx n) := by simp only [ev, psin]; grind
  rw [e] at d
  grind
theorem s_le (n : Nat) (h : xx n ≤ 1) : s n ≤ psin 8 (xx n) + tiny := by
  have b := TS.b17 n h
  have d := (ev_dist (xx_nn n) h TS.B17 (0 :: lst 8 1 2) 0).1
  have k : dist TS.B17 (0 :: lst 8 1 2) ≤ tiny := by decide +kernel
  have e : ev 0 (0 :: lst 8 1 2) (xx n) = psin 8 (xx n) := by simp only [ev, psin]; grind
  rw [e] at d
  grind
theorem c_ge (n : Nat) (h : xx n ≤ 1) : pcos 7 (xx n) - tiny ≤ c n := by
  have b := TS.a14 n h
  have d := (ev_dist (xx_nn n) h TS.A14 (lst 7 1 1) 0).2
  have k : dist TS.A14 (lst 7 1 1) ≤ tiny := by decide +kernel
  unfold pcos
  grind
theorem c_le (n : Nat) (h : xx n ≤ 1) : c n ≤ pcos 8 (xx n) + tiny := by
  have b := TS.a16 n h
  have d := (ev_dist (xx_nn n) h TS.A16 (lst 8 1 1) 0).1
  have k : dist TS.A16 (lst 8 1 1) ≤ tiny := by decide +kernel
  unfold pcos
  grind
end SI
end Go.Proofs.Ytfdkpcejjcifgal
