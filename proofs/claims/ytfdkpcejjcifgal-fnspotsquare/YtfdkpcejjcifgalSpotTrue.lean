/-
  How the true sines grow, a step at a time; halves of a part told apart strictly. No Go text in sight.
-/
import Derived.Test.YtfdkpcejjcifgalSineFine5
namespace Go.Proofs.Ytfdkpcejjcifgal
namespace SI
set_option linter.unusedVariables false
open TS (mul_le sq_nonneg ev neg ab ab_bd q c s xx)
theorem xx_at {n : Nat} (h0 : 1 ≤ n) (h1 : n ≤ 64800000) : 12 / 1000000000 ≤ xx n ∧ xx n ≤ 785398164 / 1000000000 := by
  have a := TS.cast_le h0
  have b := TS.cast_le h1
  have k1 : (12 / 1000000000 : Rat) ≤ q := by decide +kernel
  have k2 : q * 64800000 ≤ (785398164 / 1000000000 : Rat) := by decide +kernel
  have q0 := TS.q_pos
  have g1 := mul_le a (x := q) (by grind)
  have g2 := mul_le b (x := q) (by grind)
  have c1 : ((1 : Nat) : Rat) = 1 := rfl
  have c2 : ((64800000 : Nat) : Rat) = 64800000 := rfl
  rw [c1] at g1
  rw [c2] at g2
  unfold xx
  generalize q = r at *
  constructor <;> grind
theorem s_pos0 {n : Nat} (h0 : 1 ≤ n) (h1 : n ≤ 64800000) : 1 / 100000000 ≤ s n := by
  obtain ⟨a, b⟩ := xx_at h0 h1
  have g := s_geF n (by grind)
  have l := (psin7_le (show 0 ≤ xx n by grind) b).2
  have sq := sq_mono (show 0 ≤ xx n by grind) b
  have k : (785398164 / 1000000000 : Rat) * (785398164 / 1000000000) ≤ 62 / 100 := by decide +kernel
  have cu := mul_le (show xx n * xx n ≤ 62 / 100 by grind) (show 0 ≤ xx n by grind)
  unfold tinyF at g
  generalize xx n = x at *
  generalize x * x * x = w at *
  grind
theorem c_pos0 {n : Nat} (h1 : n ≤ 64800000) : 1 / 2 ≤ c n := by
  by_cases z : n = 0
  · rw [z, TS.c0]; grind
  · obtain ⟨a, b⟩ := xx_at (n := n) (by omega) h1
    have g := c_geF n (by grind)
    have k2 := pcos7_mono (show 0 ≤ xx n by grind) b (by decide +kernel)
    have k3 : (6 / 10 : Rat) ≤ pcos 7 (785398164 / 1000000000) := by decide +kernel
    unfold tinyF at g
    grind
/-- A sine of some steps, up to a quarter. -/
theorem s_pos {n : Nat} (h0 : 1 ≤ n) (h1 : n ≤ 129600000) : 1 / 100000000 ≤ s n := by
  by_cases z : n ≤ 64800000
  · exact s_pos0 h0 z
  · obtain ⟨⟨_, b⟩, _⟩ := lack_qF rfl (m := n) (k := 129600000 - n) (by omega)
    have p := c_pos0 (n := 129600000 - n) (by omega)
    unfold epsF at b
    grind
theorem c_pos {n : Nat} (h1 : n + 1 ≤ 129600000) : 9 / 1000000000 ≤ c n := by
  obtain ⟨_, _, b⟩ := lack_qF rfl (m := n) (k := 129600000 - n) (by omega)
  have p := s_pos (n := 129600000 - n) (by omega) (by omega)
  unfold epsF at b
  grind
/-- A sine of some steps, up to half a turn. -/
theorem s_pos2 {n : Nat} (h0 : 1 ≤ n) (h1 : n + 1 ≤ 259200000) : 9 / 1000000000 ≤ s n := by
  by_cases z : n ≤ 129600000
  · have := s_pos h0 z
    grind
  · obtain ⟨⟨_, b⟩, _⟩ := lack_hF rfl (m := n) (k := 259200000 - n) (by omega)
    have p := s_pos (n := 259200000 - n) (by omega) (by omega)
    unfold epsF at b
    grind
/-- Two sines. -/
theorem s_diff {m k : Nat} (h : m ≤ k) : s (k + k) - s (m + m) = 2 * (c (m + k) * s (k - m)) := by
  obtain ⟨e1, _⟩ := TS.add (m + k) (k - m)
  have e2 := (@lack (m + m) (k - m)).1
  rw [show m + m + (k - m) = m + k by omega] at e2
  rw [show m + k + (k - m) = k + k by omega] at e1
  rw [e1, e2]
  grind
theorem S_nn {h : Int} (h0 : 0 ≤ h) (h1 : h < 259200000) : S h = s (h.toNat + h.toNat) := by
  unfold S
  rw [show h % 259200000 = h by omega]
  congr 1
  omega
theorem S_strict {h k : Int} (h0 : 0 ≤ h) (hk : h < k) (k1 : k ≤ 64800000) : S h + 1 / 10000000000000000 ≤ S k := by
  rw [S_nn h0 (by omega), S_nn (by omega) (by omega)]
  have d := s_diff (m := h.toNat) (k := k.toNat) (by omega)
  have a := c_pos (n := h.toNat + k.toNat) (by omega)
  have b := s_pos (n := k.toNat - h.toNat) (by omega) (by omega)
  have m := Rat.mul_nonneg (show 0 ≤ c (h.toNat + k.toNat) - 9 / 1000000000 by grind) (show 0 ≤ s (k.toNat - h.toNat) - 1 / 100000000 by grind)
  generalize c (h.toNat + k.toNat) = x at *
  generalize s (k.toNat - h.toNat) = y at *
  grind
/-- Of two angles of halves of a part the greater one's sine ends above where the lesser one's begins. -/
theorem si_strictH {h k : Int} (h0 : 0 ≤ h) (hk : h < k) (k1 : k ≤ 64800000) : siL h < siH k := by
  have a := (si_encF h).lo
  have b := (si_encF k).hi
  have m := S_strict h0 hk k1
  have : ¬ siH k ≤ siL h := fun z => by
    have := cast_ge z
    grind
  omega
end SI
end Go.Proofs.Ytfdkpcejjcifgal
