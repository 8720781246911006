/-
  The terms of a row one by one, and the sum behind so many of them. No Go text in sight.
-/
import Derived.Test.YtfdkpcejjcifgalSineRow
namespace Go.Proofs.Ytfdkpcejjcifgal
set_option linter.unusedVariables false
namespace SI
def nn (n0 : Int) (k : Nat) : Int := n0 + 2 * (k : Int)
def dd (first x n0 : Int) : Nat → Int
  | 0 => first
  | k + 1 => NM.down (tD (dd first x n0 k) (tD x x)) (nn n0 k * (nn n0 k + 1))
def uu (first x n0 : Int) : Nat → Int
  | 0 => first
  | k + 1 => NM.up (tU (uu first x n0 k) (tU x x)) (nn n0 k * (nn n0 k + 1))
def les : Nat → Bool
  | 0 => true
  | k + 1 => !les k
def ll (first x n0 : Int) : Nat → Int
  | 0 => first
  | k + 1 => match les k with | true => ll first x n0 k - uu first x n0 (k + 1) | false => ll first x n0 k + dd first x n0 (k + 1)
def hh (first x n0 : Int) : Nat → Int
  | 0 => first
  | k + 1 => match les k with | true => hh first x n0 k - dd first x n0 (k + 1) | false => hh first x n0 k + uu first x n0 (k + 1)
def goes (first x n0 : Int) (k : Nat) : Prop := uu first x n0 k ≠ 0 ∧ nn n0 k < 40
theorem nn_succ (n0 : Int) (k : Nat) : nn n0 (k + 1) = nn n0 k + 2 := by unfold nn; omega
theorem nn0 (n0 : Int) : nn n0 0 = n0 := by unfold nn; omega
theorem dd_succ (first x n0 : Int) (k : Nat) : dd first x n0 (k + 1) = NM.down (tD (dd first x n0 k) (tD x x)) (nn n0 k * (nn n0 k + 1)) := rfl
theorem uu_succ (first x n0 : Int) (k : Nat) : uu first x n0 (k + 1) = NM.up (tU (uu first x n0 k) (tU x x)) (nn n0 k * (nn n0 k + 1)) := rfl
theorem up_nn {a m : Int} (h : 0 ≤ a) (hm : 0 < m) : 0 ≤ NM.up a m := by
  unfold NM.up
  have := Int.ediv_le_ediv hm (show -a ≤ 0 by omega)
  rw [Int.zero_ediv] at this
  omega
theorem up_le_self {U m : Int} (h : 0 ≤ U) (hm : 0 < m) : NM.up U m ≤ U := by
  unfold NM.up
  have h2 : -U ≤ -U / m := by
    refine (Int.le_ediv_iff_mul_le hm).2 ?_
    have := Int.mul_le_mul_of_nonneg_left (show 1 ≤ m by omega) h
    rw [Int.neg_mul]
    omega
  omega
theorem down_le_self {U m : Int} (h : 0 ≤ U) (hm : 0 < m) : NM.down U m ≤ U := Int.ediv_le_self _ h
theorem tt_bd {a b : Int} (a0 : 0 ≤ a) (a1 : a ≤ 1000000000) (b0 : 0 ≤ b) (b1 : b ≤ 1000000000) : 0 ≤ a * b ∧ a * b ≤ 1000000000000000000 ∧ 0 ≤ tD a b ∧ tD a b ≤ 1000000000 ∧ 0 ≤ tU a b ∧ tU a b ≤ 1000000000 := by
  have h0 := Int.mul_nonneg a0 b0
  have h1 := Int.mul_le_mul a1 b1 b0 (by decide)
  unfold tD tU NM.down NM.up
  refine ⟨h0, by omega, by omega, by omega, by omega, by omega⟩
theorem mm_bd {n : Int} (h : 1 ≤ n) (k : n < 40) : 1 ≤ n * (n + 1) ∧ n * (n + 1) ≤ 1560 := by
  have h1 := Int.mul_le_mul (show n ≤ 39 by omega) (show n + 1 ≤ 40 by omega) (by omega) (by decide)
  have h2 := mm_pos h
  omega
structure Tm (d u : Int) : Prop where
  d0 : 0 ≤ d
  d1 : d ≤ 1000000000
  u0 : 0 ≤ u
  u1 : u ≤ 1000000000
theorem tm {first x n0 : Int} (f0 : 0 ≤ first) (f1 : first ≤ 1000000000) (x0 : 0 ≤ x) (x1 : x ≤ 1000000000) (hn : 1 ≤ n0) (k : Nat) : Tm (dd first x n0 k) (uu first x n0 k) := by
  induction k with
  | zero => exact ⟨f0, f1, f0, f1⟩
  | succ k ih =>
    obtain ⟨a, b, c, d⟩ := ih
    have m : 0 < nn n0 k * (nn n0 k + 1) := mm_pos (by unfold nn; omega)
    obtain ⟨_, _, q1, q2, q3, q4⟩ := tt_bd x0 x1 x0 x1
    obtain ⟨_, _, r1, r2, _, _⟩ := tt_bd a b q1 q2
    obtain ⟨_, _, _, _, r3, r4⟩ := tt_bd c d q3 q4
    rw [dd_succ, uu_succ]
    exact ⟨nn_down r1 m, by have := down_le_self r1 m; omega, up_nn r3 m, by have := up_le_self r3 m; omega⟩
theorem sum_bd {first x n0 : Int} (f0 : 0 ≤ first) (f1 : first ≤ 1000000000) (x0 : 0 ≤ x) (x1 : x ≤ 1000000000) (hn : 1 ≤ n0) (k : Nat) :
    -((k : Int) * 1000000000) ≤ ll first x n0 k ∧ ll first x n0 k ≤ ((k : Int) + 1) * 1000000000 ∧ -((k : Int) * 1000000000) ≤ hh first x n0 k ∧ hh first x n0 k ≤ ((k : Int) + 1) * 1000000000 := by
  induction k with
  | zero => simp only [ll, hh]; omega
  | succ k ih =>
    obtain ⟨a, b, c, d⟩ := tm f0 f1 x0 x1 hn (k + 1)
    simp only [ll, hh]
    cases les k <;> simp only [] <;> omega
theorem row_step {f : Nat} {first x n0 : Int} {k : Nat} : row (f + 1) (ll first x n0 k) (hh first x n0 k) (dd first x n0 k) (uu first x n0 k) (les k) x (nn n0 k) =
    if 0 < uu first x n0 k ∧ nn n0 k < 40 then if uu first x n0 (k + 1) = 1 ∧ dd first x n0 (k + 1) = 0 then (ll first x n0 k - 1, hh first x n0 k + 1)
      else row f (ll first x n0 (k + 1)) (hh first x n0 (k + 1)) (dd first x n0 (k + 1)) (uu first x n0 (k + 1)) (les (k + 1)) x (nn n0 (k + 1)) else (ll first x n0 k, hh first x n0 k) := by
  rw [nn_succ]
  simp only [row, ll, hh, les, ← dd_succ, ← uu_succ]
  cases les k <;> rfl
/-- Behind so many terms the row is still this one. -/
def Still (first x n0 : Int) (k : Nat) : Prop := k ≤ 20 ∧ row (21 - k) (ll first x n0 k) (hh first x n0 k) (dd first x n0 k) (uu first x n0 k) (les k) x (nn n0 k) = row 21 first first first first true x n0
theorem still0 (first x n0 : Int) : Still first x n0 0 := ⟨by omega, by rw [nn0]; rfl⟩
theorem still_on {first x n0 : Int} {k : Nat} (hn : 1 ≤ n0) (h : Still first x n0 k) (g : goes first x n0 k) (u0 : 0 ≤ uu first x n0 k) (s : ¬ (uu first x n0 (k + 1) = 1 ∧ dd first x n0 (k + 1) = 0)) : Still first x n0 (k + 1) := by
  obtain ⟨h1, h2⟩ := h
  obtain ⟨g1, g2⟩ := g
  have e : 21 - k = (21 - (k + 1)) + 1 := by omega
  have k2 : k + 1 ≤ 20 := by unfold nn at g2; omega
  rw [e, row_step, if_pos ⟨by omega, g2⟩, if_neg s] at h2
  exact ⟨k2, h2⟩
theorem still_stop {first x n0 : Int} {k : Nat} (h : Still first x n0 k) (g : goes first x n0 k) (u0 : 0 ≤ uu first x n0 k) (s : uu first x n0 (k + 1) = 1 ∧ dd first x n0 (k + 1) = 0) :
    row 21 first first first first true x n0 = (ll first x n0 k - 1, hh first x n0 k + 1) := by
  obtain ⟨h1, h2⟩ := h
  obtain ⟨g1, g2⟩ := g
  have e : 21 - k = (21 - (k + 1)) + 1 := by omega
  rw [e, row_step, if_pos ⟨by omega, g2⟩, if_pos s] at h2
  exact h2.symm
theorem still_end {first x n0 : Int} {k : Nat} (h : Still first x n0 k) (g : ¬ goes first x n0 k) : row 21 first first first first true x n0 = (ll first x n0 k, hh first x n0 k) := by
  obtain ⟨h1, h2⟩ := h
  have e : 21 - k = (21 - (k + 1)) + 1 := by omega
  rw [e, row_step, if_neg (fun c => g ⟨by omega, c.2⟩)] at h2
  exact h2.symm
end SI
end Go.Proofs.Ytfdkpcejjcifgal
