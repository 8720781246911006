/-
  Plain facts on the root of a whole number, rounded down. No Go text in sight.
-/
import Derived.RowKit
namespace Go.Proofs.Ytlkompbigpbefab
namespace RM

/-- The greatest number whose square is not more. -/
def rootN : Nat → Nat
  | 0 => 0
  | n + 1 => if (rootN n + 1) * (rootN n + 1) ≤ n + 1 then rootN n + 1 else rootN n
def root (a : Int) : Int := (rootN a.toNat : Int)
theorem rootN_sq : ∀ n : Nat, rootN n * rootN n ≤ n ∧ n < (rootN n + 1) * (rootN n + 1)
  | 0 => by simp [rootN]
  | n + 1 => by
    obtain ⟨h1, h2⟩ := rootN_sq n
    simp only [rootN]
    split
    · rename_i h
      refine ⟨h, ?_⟩
      have e : (rootN n + 1 + 1) * (rootN n + 1 + 1) = (rootN n + 1) * (rootN n + 1) + 2 * (rootN n + 1) + 1 := by
        simp only [Nat.add_mul, Nat.mul_add]; omega
      omega
    · omega
theorem sq_le {x y : Int} (h0 : 0 ≤ x) (h : x ≤ y) : x * x ≤ y * y := Int.mul_le_mul h h h0 (by omega)
theorem lt_of_sq {x y : Int} (h0 : 0 ≤ y) (h : x * x < y * y) : x < y := by
  by_cases c : x < y
  · exact c
  · have := sq_le h0 (show y ≤ x by omega)
    omega
theorem root_nonneg (a : Int) : 0 ≤ root a := Int.natCast_nonneg _
theorem root_sq {a : Int} (h : 0 ≤ a) : root a * root a ≤ a ∧ a < (root a + 1) * (root a + 1) := by
  obtain ⟨h1, h2⟩ := rootN_sq a.toNat
  unfold root
  generalize rootN a.toNat = r at *
  have e1 : ((r * r : Nat) : Int) = (r : Int) * r := by simp
  have e2 : (((r + 1) * (r + 1) : Nat) : Int) = ((r : Int) + 1) * ((r : Int) + 1) := by simp
  rw [← e1, ← e2]
  omega
theorem root_unique {a r : Int} (h0 : 0 ≤ r) (h1 : r * r ≤ a) (h2 : a < (r + 1) * (r + 1)) : r = root a := by
  have ha : 0 ≤ a := by have := Int.mul_nonneg h0 h0; omega
  obtain ⟨g1, g2⟩ := root_sq ha
  have g0 := root_nonneg a
  have c1 := lt_of_sq (x := r) (y := root a + 1) (by omega) (by omega)
  have c2 := lt_of_sq (x := root a) (y := r + 1) (by omega) (by omega)
  omega
theorem small {a x : Int} (h : a ≤ 1152921504606846976) (h1 : x * x ≤ a) : x ≤ 1073741824 := by
  have := lt_of_sq (x := x) (y := 1073741825) (by omega) (by omega)
  omega
theorem root_small {a : Int} (h0 : 0 ≤ a) (h : a ≤ 1152921504606846976) : root a ≤ 1073741824 := small h (root_sq h0).1

/-- A power of two. -/
def Pow (b : Int) : Prop := ∃ k : Nat, b = ((2 ^ k : Nat) : Int)
theorem pow_start : Pow 1073741824 := ⟨30, rfl⟩
theorem pow_pos {b : Int} (h : Pow b) : 1 ≤ b := by
  obtain ⟨k, rfl⟩ := h
  have := Nat.pow_pos (n := k) (show 0 < 2 by omega)
  omega
theorem pow_half {b : Int} (h : Pow b) : b = 1 ∨ (Pow (b / 2) ∧ 2 * (b / 2) = b) := by
  obtain ⟨k, rfl⟩ := h
  cases k with
  | zero => exact .inl rfl
  | succ k =>
    refine .inr ?_
    have e : ((2 ^ (k + 1) : Nat) : Int) = 2 * ((2 ^ k : Nat) : Int) := by rw [Nat.pow_succ]; omega
    rw [e]
    have e2 : 2 * ((2 ^ k : Nat) : Int) / 2 = ((2 ^ k : Nat) : Int) := by omega
    rw [e2]
    exact ⟨⟨k, rfl⟩, rfl⟩

/-- What the program's loop keeps, with the root so far and the bit that is tried next. -/
def R (a x b : Int) : Prop := 0 ≤ x ∧ x ≤ 1073741824 ∧ x * x ≤ a ∧ 0 ≤ b ∧ b ≤ 1073741824 ∧ ((Pow b ∧ a < (x + 2 * b) * (x + 2 * b)) ∨ (b = 0 ∧ a < (x + 1) * (x + 1)))
theorem R_start {a : Int} (h0 : 0 ≤ a) (h : a ≤ 1152921504606846976) : R a 0 1073741824 :=
  ⟨by omega, by omega, by omega, by omega, by omega, .inl ⟨pow_start, by omega⟩⟩
theorem R_next {a x b : Int} (h : a ≤ 1152921504606846976) (hp : Pow b) (hb : b ≤ 1073741824) (h0 : 0 ≤ x) (h1 : x * x ≤ a) (h2 : a < (x + b) * (x + b)) : R a x (b / 2) := by
  have hx := small h h1
  have h3 := pow_pos hp
  refine ⟨h0, hx, h1, by omega, by omega, ?_⟩
  rcases pow_half hp with rfl | ⟨p, e⟩
  · exact .inr ⟨rfl, h2⟩
  · refine .inl ⟨p, ?_⟩
    rw [e]
    exact h2
theorem R_yes {a x b : Int} (h : a ≤ 1152921504606846976) (hR : R a x b) (hb : 1 ≤ b) (h1 : (x + b) * (x + b) ≤ a) : R a (x + b) (b / 2) := by
  obtain ⟨g1, g2, g3, g4, g5, ⟨p, g⟩ | ⟨rfl, g⟩⟩ := hR
  · refine R_next h p g5 (by omega) h1 ?_
    have e : x + b + b = x + 2 * b := by omega
    rw [e]
    exact g
  · omega
theorem R_no {a x b : Int} (h : a ≤ 1152921504606846976) (hR : R a x b) (hb : 1 ≤ b) (h1 : a < (x + b) * (x + b)) : R a x (b / 2) := by
  obtain ⟨g1, g2, g3, g4, g5, ⟨p, g⟩ | ⟨rfl, g⟩⟩ := hR
  · exact R_next h p g5 g1 g3 h1
  · omega
theorem R_end {a x b : Int} (hR : R a x b) (hb : b ≤ 0) : x = root a := by
  obtain ⟨g1, g2, g3, g4, g5, ⟨p, g⟩ | ⟨rfl, g⟩⟩ := hR
  · have := pow_pos p
    omega
  · exact root_unique g1 g3 g
theorem sq_bd {x : Int} (h0 : 0 ≤ x) (h : x ≤ 2147483648) : 0 ≤ x * x ∧ x * x ≤ 4611686018427387904 := by
  refine ⟨Int.mul_nonneg h0 h0, ?_⟩
  have := sq_le h0 h
  omega

end RM
end Go.Proofs.Ytlkompbigpbefab
