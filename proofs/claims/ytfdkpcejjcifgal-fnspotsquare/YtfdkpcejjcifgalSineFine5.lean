/-
  The spans of all sines have the true ones, but for a very little. No Go text in sight.
-/
import Derived.Test.YtfdkpcejjcifgalSineFine4
namespace Go.Proofs.Ytfdkpcejjcifgal
namespace SI
set_option linter.unusedVariables false
open TS (mul_le sq_nonneg ev neg ab ab_bd q c s xx)
theorem qu_encF {h : Int} (h0 : 0 ≤ h) (h1 : h ≤ 64800000) : In (quL h) (quH h) (s (2 * h.toNat)) (1 / 40000000000) := by
  obtain ⟨N, hN⟩ : ∃ N : Nat, N = 64800000 := ⟨_, rfl⟩
  have c0 : ((0 : Int) : Rat) = 0 := rfl
  have c5 : ((500000000 : Int) : Rat) = 500000000 := rfl
  have c9 : ((1000000000 : Int) : Rat) = 1000000000 := rfl
  unfold quL quH
  by_cases z0 : h = 0
  · rw [if_pos z0, if_pos z0]
    have e : 2 * h.toNat = 0 := by omega
    rw [e, TS.s0]
    exact ⟨by rw [c0]; grind, by rw [c0]; grind⟩
  · rw [if_neg z0, if_neg z0]
    by_cases z1 : h = 21600000
    · rw [if_pos z1, if_pos z1]
      obtain ⟨p1, p2⟩ := half_ptF (n := 2 * h.toNat) (by omega)
      unfold epsF at p1 p2
      generalize s (2 * h.toNat) = v at *
      exact ⟨by rw [c5]; grind, by rw [c5]; grind⟩
    · rw [if_neg z1, if_neg z1]
      by_cases z2 : h = 64800000
      · rw [if_pos z2, if_pos z2]
        obtain ⟨a1, _, _⟩ := quarterF hN
        have e : 2 * h.toNat = N + N := by omega
        rw [e]
        have b := (s_bd (N + N)).1
        have z := epsF0
        unfold epsF at a1
        generalize s (N + N) = v at *
        exact ⟨by rw [c9]; grind, by rw [c9]; grind⟩
      · rw [if_neg z2, if_neg z2]
        by_cases z3 : h ≤ 32400000
        · rw [if_pos z3, if_pos z3]
          obtain ⟨l, u⟩ := small_encF (h := h) (by omega) z3
          generalize s (2 * h.toNat) = v at *
          exact ⟨by grind, by grind⟩
        · rw [if_neg z3, if_neg z3]
          obtain ⟨l, u⟩ := near_encF (h := 64800000 - h) (by omega) (by omega)
          obtain ⟨⟨q1, q2⟩, _⟩ := lack_qF hN (m := 2 * h.toNat) (k := 2 * (64800000 - h).toNat) (by omega)
          unfold epsF at q1 q2
          generalize s (2 * h.toNat) = v at *
          generalize c (2 * (64800000 - h).toNat) = w at *
          exact ⟨by grind, by grind⟩
theorem ha_encF {h : Int} (h0 : 0 ≤ h) (h1 : h ≤ 129600000) : In (haL h) (haH h) (s (2 * h.toNat)) (1 / 20000000000) := by
  obtain ⟨N, hN⟩ : ∃ N : Nat, N = 64800000 := ⟨_, rfl⟩
  unfold haL haH
  by_cases z : 64800000 < h
  · rw [if_pos z, if_pos z]
    obtain ⟨l, u⟩ := qu_encF (h := 129600000 - h) (by omega) (by omega)
    obtain ⟨⟨q1, q2⟩, _⟩ := lack_hF hN (m := 2 * h.toNat) (k := 2 * (129600000 - h).toNat) (by omega)
    unfold epsF at q1 q2
    generalize s (2 * h.toNat) = v at *
    generalize s (2 * (129600000 - h).toNat) = w at *
    exact ⟨by grind, by grind⟩
  · rw [if_neg z, if_neg z]
    obtain ⟨l, u⟩ := qu_encF h0 (by omega)
    generalize s (2 * h.toNat) = v at *
    exact ⟨by grind, by grind⟩
/-- The span of a sine has it, nearly. -/
theorem si_encF (h : Int) : In (siL h) (siH h) (S h) (1 / 10000000000) := by
  obtain ⟨N, hN⟩ : ∃ N : Nat, N = 64800000 := ⟨_, rfl⟩
  have b0 : 0 ≤ h % 259200000 := Int.emod_nonneg _ (by decide)
  have b1 : h % 259200000 < 259200000 := Int.emod_lt_of_pos _ (by decide)
  unfold siL siH S
  generalize h % 259200000 = g at *
  by_cases z : 129600000 ≤ g
  · rw [if_pos z, if_pos z]
    obtain ⟨l, u⟩ := ha_encF (h := g - 129600000) (by omega) (by omega)
    obtain ⟨⟨q1, q2⟩, _⟩ := turn_hF hN (2 * (g - 129600000).toNat)
    have e : 2 * (g - 129600000).toNat + (N + N) + (N + N) = 2 * g.toNat := by omega
    rw [e] at q1 q2
    unfold epsF at q1 q2
    have cn : ∀ a : Int, ((-a : Int) : Rat) = -(a : Rat) := fun a => by push_cast; rfl
    generalize s (2 * g.toNat) = v at *
    generalize s (2 * (g - 129600000).toNat) = w at *
    exact ⟨by rw [cn]; grind, by rw [cn]; grind⟩
  · rw [if_neg z, if_neg z]
    obtain ⟨l, u⟩ := ha_encF b0 (by omega)
    generalize s (2 * g.toNat) = v at *
    exact ⟨by grind, by grind⟩
end SI
end Go.Proofs.Ytfdkpcejjcifgal
