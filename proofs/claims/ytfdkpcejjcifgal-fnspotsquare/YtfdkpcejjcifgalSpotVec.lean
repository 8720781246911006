/-
  Places on a ball as three numbers each, and the triangle of three places. No Go text in sight.
-/
import Derived.Test.YtfdkpcejjcifgalSpotFan
namespace Go.Proofs.Ytfdkpcejjcifgal
namespace SI
set_option linter.unusedVariables false
open TS (mul_le sq_nonneg ev neg ab ab_bd q c s xx)
theorem c_dbl (n : Nat) : c (n + n) = 1 - 2 * (s n * s n) := by
  obtain ⟨_, e⟩ := TS.add n n
  have l := TS.len n
  rw [e]
  grind
/-- The cosine of a difference. -/
theorem c_diff {m n : Nat} (h : m ≤ n) : c m * c n + s m * s n = c (n - m) := by
  have e := (@lack (n - m) m).2
  rw [show n - m + m = n by omega] at e
  rw [e]
  grind
/-- The squares of two sines. -/
theorem sq_diff {m n : Nat} (h : m ≤ n) : s n * s n - s m * s m = s (n + m) * s (n - m) := by
  obtain ⟨e1, _⟩ := TS.add n m
  have e2 : s (n - m) = s n * c m - c n * s m := by
    have := (@lack (n - m) m).1
    rw [show n - m + m = n by omega] at this
    exact this
  have l1 := TS.len n
  have l2 := TS.len m
  rw [e1, e2]
  have k : (s n * c m + c n * s m) * (s n * c m - c n * s m) = s n * s n * (c m * c m) - c n * c n * (s m * s m) := by grind
  rw [k, show c m * c m = 1 - s m * s m by grind, show c n * c n = 1 - s n * s n by grind]
  grind
/-! ### the triangle -/
structure Vec where
  x : Rat
  y : Rat
  z : Rat
def dot (p q : Vec) : Rat := p.x * q.x + p.y * q.y + p.z * q.z
/-- By a third place it is not nearer. -/
theorem tri {p q r : Vec} (pp : dot p p = 1) (qq : dot q q = 1) (rr : dot r r = 1) {sU cU sV cV : Rat} (u1 : sU * sU + cU * cU = 1) (v1 : sV * sV + cV * cV = 1) (u0 : 0 < sU) (v0 : 0 < sV) (g0 : 0 ≤ sV * cU + sU * cV)
    (hu : cU ≤ dot p r) (hv : cV ≤ dot r q) : cU * cV - sU * sV ≤ dot p q := by
  obtain ⟨px, py, pz⟩ := p
  obtain ⟨qx, qy, qz⟩ := q
  obtain ⟨rx, ry, rz⟩ := r
  simp only [dot] at *
  obtain ⟨u, eu⟩ : ∃ u, u = px * rx + py * ry + pz * rz := ⟨_, rfl⟩
  obtain ⟨v, ev⟩ : ∃ v, v = rx * qx + ry * qy + rz * qz := ⟨_, rfl⟩
  obtain ⟨w, ew⟩ : ∃ w, w = px * qx + py * qy + pz * qz := ⟨_, rfl⟩
  rw [← eu] at hu
  rw [← ev] at hv
  rw [← ew]
  obtain ⟨g, eg⟩ : ∃ g, g = sV * u + sU * v := ⟨_, rfl⟩
  have n1 := sq_nonneg (sV * px + sU * qx - g * rx)
  have n2 := sq_nonneg (sV * py + sU * qy - g * ry)
  have n3 := sq_nonneg (sV * pz + sU * qz - g * rz)
  have key : (sV * px + sU * qx - g * rx) * (sV * px + sU * qx - g * rx) + (sV * py + sU * qy - g * ry) * (sV * py + sU * qy - g * ry) + (sV * pz + sU * qz - g * rz) * (sV * pz + sU * qz - g * rz)
      = sV * sV * (px * px + py * py + pz * pz) + sU * sU * (qx * qx + qy * qy + qz * qz) + g * g * (rx * rx + ry * ry + rz * rz) + 2 * (sU * sV) * (px * qx + py * qy + pz * qz) - 2 * g * sV * (px * rx + py * ry + pz * rz) - 2 * g * sU * (rx * qx + ry * qy + rz * qz) := by grind
  rw [pp, qq, rr, ← eu, ← ev, ← ew] at key
  have pos : 0 ≤ sV * sV * 1 + sU * sU * 1 + g * g * 1 + 2 * (sU * sV) * w - 2 * g * sV * u - 2 * g * sU * v := by
    rw [← key]
    grind
  clear key n1 n2 n3 pp qq rr eu ev ew
  have e2 : 2 * g * sV * u + 2 * g * sU * v = 2 * (g * g) := by rw [eg]; grind
  have m1 := mul_le hu (x := sV) (by grind)
  have m2 := mul_le hv (x := sU) (by grind)
  have gg := sq_mono g0 (show sV * cU + sU * cV ≤ g by grind)
  have id : (sV * cU + sU * cV) * (sV * cU + sU * cV) - sU * sU - sV * sV = 2 * (sU * sV) * (cU * cV - sU * sV) := by
    have a : cU * cU = 1 - sU * sU := by grind
    have b : cV * cV = 1 - sV * sV := by grind
    have : (sV * cU + sU * cV) * (sV * cU + sU * cV) = sV * sV * (cU * cU) + sU * sU * (cV * cV) + 2 * (sU * sV) * (cU * cV) := by grind
    rw [this, a, b]
    grind
  have uv : 0 < 2 * (sU * sV) := by
    have := Rat.mul_pos u0 v0
    grind
  refine le_of_mul (m := 2 * (sU * sV)) uv ?_
  generalize cU * cV - sU * sV = K at *
  generalize (sV * cU + sU * cV) * (sV * cU + sU * cV) = T at *
  generalize g * g = G at *
  clear u1 v1 m1 m2 hu hv g0 eg u0 v0
  grind
/-! ### places -/
/-- The cosine, and the sine, of so many parts up. -/
def Kc (a : Int) : Rat := c (4 * a.natAbs)
def Ks (a : Int) : Rat := if 0 ≤ a then s (4 * a.natAbs) else -s (4 * a.natAbs)
theorem K_len (a : Int) : Kc a * Kc a + Ks a * Ks a = 1 := by
  have l := TS.len (4 * a.natAbs)
  unfold Kc Ks
  split
  · exact l
  · grind
def So (x : Int) : Rat := s (2 * x.natAbs)
theorem K_diff (a b : Int) : Kc a * Kc b + Ks a * Ks b = 1 - 2 * (So (b - a) * So (b - a)) := by
  unfold Kc Ks So
  have fin : ∀ n : Nat, n = 4 * (b - a).natAbs → c n = 1 - 2 * (s (2 * (b - a).natAbs) * s (2 * (b - a).natAbs)) := fun n e => by
    rw [show n = 2 * (b - a).natAbs + 2 * (b - a).natAbs by omega]
    exact c_dbl _
  by_cases ha : 0 ≤ a
  · by_cases hb : 0 ≤ b
    · rw [if_pos ha, if_pos hb]
      by_cases h : a ≤ b
      · rw [c_diff (by omega)]
        exact fin _ (by omega)
      · rw [Rat.mul_comm (c (4 * a.natAbs)), Rat.mul_comm (s (4 * a.natAbs)), c_diff (by omega)]
        exact fin _ (by omega)
    · rw [if_pos ha, if_neg hb]
      have e := (TS.add (4 * a.natAbs) (4 * b.natAbs)).2
      rw [← fin (4 * a.natAbs + 4 * b.natAbs) (by omega), e]
      grind
  · by_cases hb : 0 ≤ b
    · rw [if_neg ha, if_pos hb]
      have e := (TS.add (4 * a.natAbs) (4 * b.natAbs)).2
      rw [← fin (4 * a.natAbs + 4 * b.natAbs) (by omega), e]
      grind
    · rw [if_neg ha, if_neg hb]
      rw [show -s (4 * a.natAbs) * -s (4 * b.natAbs) = s (4 * a.natAbs) * s (4 * b.natAbs) by grind]
      by_cases h : b ≤ a
      · rw [c_diff (by omega)]
        exact fin _ (by omega)
      · rw [Rat.mul_comm (c (4 * a.natAbs)), Rat.mul_comm (s (4 * a.natAbs)), c_diff (by omega)]
        exact fin _ (by omega)
theorem A_diff {l m : Int} (l0 : 0 ≤ l) (m0 : 0 ≤ m) : c (4 * l.natAbs) * c (4 * m.natAbs) + s (4 * l.natAbs) * s (4 * m.natAbs) = 1 - 2 * (So (m - l) * So (m - l)) := by
  unfold So
  have fin : ∀ n : Nat, n = 4 * (m - l).natAbs → c n = 1 - 2 * (s (2 * (m - l).natAbs) * s (2 * (m - l).natAbs)) := fun n e => by
    rw [show n = 2 * (m - l).natAbs + 2 * (m - l).natAbs by omega]
    exact c_dbl _
  by_cases h : l ≤ m
  · rw [c_diff (by omega)]
    exact fin _ (by omega)
  · rw [Rat.mul_comm (c (4 * l.natAbs)), Rat.mul_comm (s (4 * l.natAbs)), c_diff (by omega)]
    exact fin _ (by omega)
/-- A place. -/
def vec (a l : Int) : Vec := ⟨Kc a * c (4 * l.natAbs), Kc a * s (4 * l.natAbs), Ks a⟩
theorem vec_len (a l : Int) : dot (vec a l) (vec a l) = 1 := by
  have k := K_len a
  have n := TS.len (4 * l.natAbs)
  simp only [dot, vec]
  generalize c (4 * l.natAbs) = x at *
  generalize s (4 * l.natAbs) = y at *
  generalize Kc a = u at *
  generalize Ks a = v at *
  have : u * x * (u * x) + u * y * (u * y) = u * u * (x * x + y * y) := by grind
  rw [this, n]
  grind
/-- The true square of half the way's chord. -/
def hsq (a l b m : Int) : Rat := So (b - a) * So (b - a) + Kc a * Kc b * (So (m - l) * So (m - l))
theorem vec_dot {a l b m : Int} (l0 : 0 ≤ l) (m0 : 0 ≤ m) : dot (vec a l) (vec b m) = 1 - 2 * hsq a l b m := by
  have k := K_diff a b
  have n := A_diff l0 m0
  simp only [dot, vec]
  unfold hsq
  generalize c (4 * l.natAbs) = x at *
  generalize s (4 * l.natAbs) = y at *
  generalize c (4 * m.natAbs) = x' at *
  generalize s (4 * m.natAbs) = y' at *
  generalize So (m - l) * So (m - l) = A at *
  generalize So (b - a) * So (b - a) = B at *
  have : Kc a * x * (Kc b * x') + Kc a * y * (Kc b * y') = Kc a * Kc b * (x * x' + y * y') := by grind
  rw [this, n]
  grind
theorem hsq_le {a l b m : Int} (l0 : 0 ≤ l) (m0 : 0 ≤ m) : hsq a l b m ≤ 1 := by
  have d := vec_dot (a := a) (b := b) l0 m0
  have p1 := vec_len a l
  have p2 := vec_len b m
  generalize vec a l = p at *
  generalize vec b m = q at *
  simp only [dot] at *
  have n1 := sq_nonneg (p.x + q.x)
  have n2 := sq_nonneg (p.y + q.y)
  have n3 := sq_nonneg (p.z + q.z)
  grind
end SI
end Go.Proofs.Ytfdkpcejjcifgal
