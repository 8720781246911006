/-
  How far it is from place to place: what the specification reckons, as numbers; and what of it is exact. No Go text in sight.
-/
import Derived.Test.YtfdkpcejjcifgalSpotTrue
import Derived.Test.YtfdkpcejjcifgalHalve
namespace Go.Proofs.Ytfdkpcejjcifgal
namespace SI
set_option linter.unusedVariables false
/-- What is below 0, or above one, left out. -/
def clp (x : Int) : Int := min (max x 0) 1000000000
theorem clp_bd (x : Int) : 0 ≤ clp x ∧ clp x ≤ 1000000000 := by unfold clp; omega
theorem clp_mono {x y : Int} (h : x ≤ y) : clp x ≤ clp y := by unfold clp; omega
theorem clp_id {x : Int} (h0 : 0 ≤ x) (h1 : x ≤ 1000000000) : clp x = x := by unfold clp; omega
/-- The square of the sine of so many halves. -/
def oL (x : Int) : Int := clp (SM.mulLo (siL x) (siH x) (siL x) (siH x))
def oH (x : Int) : Int := clp (SM.mulHi (siL x) (siH x) (siL x) (siH x))
/-- The cosine of an angle up. -/
def kL (a : Int) : Int := clp (siL (2 * a + 64800000))
def kH (a : Int) : Int := clp (siH (2 * a + 64800000))
def bL (a b : Int) : Int := clp (SM.mulLo (kL a) (kH a) (kL b) (kH b))
def bH (a b : Int) : Int := clp (SM.mulHi (kL a) (kH a) (kL b) (kH b))
def tL (a b x : Int) : Int := SM.mulLo (bL a b) (bH a b) (oL x) (oH x)
def tH (a b x : Int) : Int := SM.mulHi (bL a b) (bH a b) (oL x) (oH x)
/-- From the place up 'a' and around 'l' to that up 'b' and around 'm'. -/
def sqL (a l b m : Int) : Int := clp (oL (b - a) + tL a b (m - l))
def sqH (a l b m : Int) : Int := clp (oH (b - a) + tH a b (m - l))
def dsL (a l b m : Int) : Int := max (2 * sbL (min (SM.rtLo (sqL a l b m)) 1000000000)) 0
def dsH (a l b m : Int) : Int := 2 * sbH (min (SM.rtHi (sqH a l b m)) 1000000000)
theorem si_le (x : Int) : siL x ≤ siH x := (si_enc x).2.b
theorem k_le (a : Int) : kL a ≤ kH a := clp_mono (si_le _)
/-! ### products of what is not below 0 -/
theorem mul_nnI {a b c d : Int} (h0 : 0 ≤ a) (h : a ≤ b) (g0 : 0 ≤ c) (g : c ≤ d) : SM.mulLo a b c d = NM.down (a * c) 1000000000 ∧ SM.mulHi a b c d = NM.up (b * d) 1000000000 := by
  have e1 : a * c ≤ a * d := Int.mul_le_mul_of_nonneg_left g h0
  have e2 : a * c ≤ b * c := Int.mul_le_mul_of_nonneg_right h g0
  have e3 : a * d ≤ b * d := Int.mul_le_mul_of_nonneg_right h (by omega)
  have e4 : b * c ≤ b * d := Int.mul_le_mul_of_nonneg_left g (by omega)
  unfold SM.mulLo SM.mulHi NM.down NM.up
  generalize a * c = p at *
  generalize a * d = q at *
  generalize b * c = r at *
  generalize b * d = t at *
  omega
theorem mul_bdI {a b c d : Int} (h0 : 0 ≤ a) (h : a ≤ b) (h1 : b ≤ 1000000000) (g0 : 0 ≤ c) (g : c ≤ d) (g1 : d ≤ 1000000000) : 0 ≤ SM.mulLo a b c d ∧ SM.mulLo a b c d ≤ SM.mulHi a b c d ∧ SM.mulHi a b c d ≤ 1000000000 := by
  obtain ⟨e1, e2⟩ := mul_nnI h0 h g0 g
  have p0 : 0 ≤ a * c := Int.mul_nonneg h0 g0
  have p1 : a * c ≤ b * d := Int.mul_le_mul h g g0 (by omega)
  have p2 : b * d ≤ 1000000000 * 1000000000 := Int.mul_le_mul h1 g1 (by omega) (by decide)
  rw [e1, e2]
  unfold NM.down NM.up
  generalize a * c = p at *
  generalize b * d = t at *
  omega
theorem o_le (x : Int) : oL x ≤ oH x := clp_mono (mul_fit (si_enc x).2 (si_enc x).2).2.1
theorem b_le (a b : Int) : bL a b ≤ bH a b := clp_mono (mul_bdI (clp_bd _).1 (k_le a) (clp_bd _).2 (clp_bd _).1 (k_le b) (clp_bd _).2).2.1
theorem t_bd (a b x : Int) : 0 ≤ tL a b x ∧ tL a b x ≤ tH a b x ∧ tH a b x ≤ 1000000000 := mul_bdI (clp_bd _).1 (b_le a b) (clp_bd _).2 (clp_bd _).1 (o_le x) (clp_bd _).2
theorem sq_le (a l b m : Int) : sqL a l b m ≤ sqH a l b m := clp_mono (by have := o_le (b - a); have := t_bd a b (m - l); omega)
theorem sq_bd (a l b m : Int) : 0 ≤ sqL a l b m ∧ sqH a l b m ≤ 1000000000 := ⟨(clp_bd _).1, (clp_bd _).2⟩
/-! ### what is exact -/
theorem o_neg (x : Int) : oL (-x) = oL x ∧ oH (-x) = oH x := by
  obtain ⟨e1, e2⟩ := si_neg x
  unfold oL oH
  rw [e1, e2]
  have p1 : -siH x * -siH x = siH x * siH x := Int.neg_mul_neg _ _
  have p2 : -siH x * -siL x = siH x * siL x := Int.neg_mul_neg _ _
  have p3 : -siL x * -siH x = siL x * siH x := Int.neg_mul_neg _ _
  have p4 : -siL x * -siL x = siL x * siL x := Int.neg_mul_neg _ _
  unfold SM.mulLo SM.mulHi
  rw [p1, p2, p3, p4]
  generalize NM.down (siH x * siH x) 1000000000 = a
  generalize NM.down (siH x * siL x) 1000000000 = b
  generalize NM.down (siL x * siH x) 1000000000 = c
  generalize NM.down (siL x * siL x) 1000000000 = d
  generalize NM.up (siH x * siH x) 1000000000 = e
  generalize NM.up (siH x * siL x) 1000000000 = f
  generalize NM.up (siL x * siH x) 1000000000 = g
  generalize NM.up (siL x * siL x) 1000000000 = h
  unfold clp
  omega
theorem o_half (x : Int) : oL (x + 129600000) = oL x ∧ oH (x + 129600000) = oH x := by
  have n := o_neg x
  have e1 : siL (x + 129600000) = siL (-x) := by rw [(si_half x).1, (si_neg x).1]
  have e2 : siH (x + 129600000) = siH (-x) := by rw [(si_half x).2, (si_neg x).2]
  have a1 : oL (x + 129600000) = oL (-x) := by unfold oL; rw [e1, e2]
  have a2 : oH (x + 129600000) = oH (-x) := by unfold oH; rw [e1, e2]
  rw [a1, a2]
  exact n
theorem o_turn (x : Int) (n : Nat) : oL (x + 129600000 * (n : Int)) = oL x ∧ oH (x + 129600000 * (n : Int)) = oH x := by
  induction n with
  | zero => simp
  | succ n ih =>
    have e : x + 129600000 * ((n + 1 : Nat) : Int) = x + 129600000 * (n : Int) + 129600000 := by push_cast; omega
    rw [e, (o_half _).1, (o_half _).2]
    exact ih
theorem o_turns (x k : Int) : oL (x + 129600000 * k) = oL x ∧ oH (x + 129600000 * k) = oH x := by
  rcases Int.le_total 0 k with h | h
  · have := o_turn x k.toNat
    rw [Int.toNat_of_nonneg h] at this
    exact this
  · have := o_turn (x + 129600000 * k) (-k).toNat
    rw [Int.toNat_of_nonneg (by omega), show x + 129600000 * k + 129600000 * -k = x by omega] at this
    exact ⟨this.1.symm, this.2.symm⟩
theorem o_zero : oL 0 = 0 ∧ oH 0 = 0 := by
  obtain ⟨e1, e2⟩ := ex0
  unfold oL oH
  rw [e1, e2]
  decide
theorem k_neg (a : Int) : kL (-a) = kL a ∧ kH (-a) = kH a := by
  obtain ⟨e1, e2⟩ := si_cos (2 * a)
  unfold kL kH
  rw [show 2 * -a + 64800000 = -(2 * a) + 64800000 by omega, e1, e2]
  exact ⟨rfl, rfl⟩
theorem mul_swap (a b c d : Int) : SM.mulLo a b c d = SM.mulLo c d a b ∧ SM.mulHi a b c d = SM.mulHi c d a b := by
  unfold SM.mulLo SM.mulHi
  rw [Int.mul_comm a c, Int.mul_comm a d, Int.mul_comm b c, Int.mul_comm b d]
  omega
theorem b_swap (a b : Int) : bL b a = bL a b ∧ bH b a = bH a b := by
  unfold bL bH
  rw [(mul_swap (kL b) (kH b) (kL a) (kH a)).1, (mul_swap (kL b) (kH b) (kL a) (kH a)).2]
  exact ⟨rfl, rfl⟩
theorem sq_swap (a l b m : Int) : sqL b m a l = sqL a l b m ∧ sqH b m a l = sqH a l b m := by
  have o1 := o_neg (b - a)
  have o2 := o_neg (m - l)
  rw [show -(b - a) = a - b by omega] at o1
  rw [show -(m - l) = l - m by omega] at o2
  unfold sqL sqH tL tH
  rw [(b_swap a b).1, (b_swap a b).2, o1.1, o1.2, o2.1, o2.2]
  exact ⟨rfl, rfl⟩
theorem ds_swap (a l b m : Int) : dsL b m a l = dsL a l b m ∧ dsH b m a l = dsH a l b m := by
  unfold dsL dsH
  rw [(sq_swap a l b m).1, (sq_swap a l b m).2]
  exact ⟨rfl, rfl⟩
theorem mul_zero_r (a b : Int) : SM.mulLo a b 0 0 = 0 ∧ SM.mulHi a b 0 0 = 0 := by
  unfold SM.mulLo SM.mulHi
  simp only [Int.mul_zero]
  decide
theorem mul_zero_l (a b : Int) : SM.mulLo 0 0 a b = 0 ∧ SM.mulHi 0 0 a b = 0 := by
  unfold SM.mulLo SM.mulHi
  simp only [Int.zero_mul]
  decide
theorem clp0 : clp 0 = 0 := by decide
theorem pole_k : (kL 32400000 = 0 ∧ kH 32400000 = 0) ∧ kL (-32400000) = 0 ∧ kH (-32400000) = 0 := by
  have e : kL 32400000 = 0 ∧ kH 32400000 = 0 := by
    obtain ⟨e1, e2⟩ := ex6
    unfold kL kH
    rw [show (2 : Int) * 32400000 + 64800000 = 129600000 by decide, e1, e2]
    decide
  refine ⟨e, ?_⟩
  rw [(k_neg 32400000).1, (k_neg 32400000).2]
  exact e
/-- From a place straight up, or down, nothing is around. -/
theorem t_zero (a b : Int) : tL a b 0 = 0 ∧ tH a b 0 = 0 := by
  unfold tL tH
  rw [o_zero.1, o_zero.2]
  exact mul_zero_r _ _
theorem t_pole {a b x : Int} (h : b = 32400000 ∨ b = -32400000) : tL a b x = 0 ∧ tH a b x = 0 := by
  have e : kL b = 0 ∧ kH b = 0 := by
    rcases h with rfl | rfl
    · exact pole_k.1
    · exact pole_k.2
  have e2 : bL a b = 0 ∧ bH a b = 0 := by
    unfold bL bH
    rw [e.1, e.2, (mul_zero_r _ _).1, (mul_zero_r _ _).2]
    exact ⟨clp0, clp0⟩
  unfold tL tH
  rw [e2.1, e2.2]
  exact mul_zero_l _ _
theorem o_bd (x : Int) : 0 ≤ oL x ∧ oL x ≤ oH x ∧ oH x ≤ 1000000000 := ⟨(clp_bd _).1, o_le x, (clp_bd _).2⟩
theorem sq_up (a l b : Int) : sqL a l b l = oL (b - a) ∧ sqH a l b l = oH (b - a) := by
  have z := t_zero a b
  have e : l - l = 0 := by omega
  have d := o_bd (b - a)
  unfold sqL sqH
  rw [e, z.1, z.2, Int.add_zero, Int.add_zero]
  exact ⟨clp_id d.1 (by omega), clp_id (by omega) d.2.2⟩
theorem sq_pole {a l b m : Int} (h : b = 32400000 ∨ b = -32400000) : sqL a l b m = oL (b - a) ∧ sqH a l b m = oH (b - a) := by
  have z := t_pole (a := a) (x := m - l) h
  have d := o_bd (b - a)
  unfold sqL sqH
  rw [z.1, z.2, Int.add_zero, Int.add_zero]
  exact ⟨clp_id d.1 (by omega), clp_id (by omega) d.2.2⟩
theorem k0 : kL 0 = 1000000000 ∧ kH 0 = 1000000000 := by
  obtain ⟨e1, e2⟩ := ex3
  unfold kL kH
  rw [show (2 : Int) * 0 + 64800000 = 64800000 by decide, e1, e2]
  decide
theorem sq_mid (l m : Int) : sqL 0 l 0 m = oL (m - l) ∧ sqH 0 l 0 m = oH (m - l) := by
  have d := o_bd (m - l)
  have b : bL 0 0 = 1000000000 ∧ bH 0 0 = 1000000000 := by
    unfold bL bH
    rw [k0.1, k0.2]
    decide
  have z : (0 : Int) - 0 = 0 := by decide
  have t : tL 0 0 (m - l) = oL (m - l) ∧ tH 0 0 (m - l) = oH (m - l) := by
    unfold tL tH
    rw [b.1, b.2]
    obtain ⟨e1, e2⟩ := mul_nnI (show (0 : Int) ≤ 1000000000 by decide) (Int.le_refl _) d.1 d.2.1
    rw [e1, e2]
    unfold NM.down NM.up
    omega
  unfold sqL sqH
  rw [z, o_zero.1, o_zero.2, t.1, t.2, Int.zero_add, Int.zero_add]
  exact ⟨clp_id d.1 (by omega), clp_id (by omega) d.2.2⟩
end SI
end Go.Proofs.Ytfdkpcejjcifgal
