/-
  Texts of angles, as the program reads and writes them: figures from behind, and a sign and figures wherever they stand. No Go text in sight.
-/
import Derived.Test.YtfdkpcejjcifgauAngText
namespace Go.Proofs.Ytfdkpcejjcifgau
namespace AT
open AM

/-! ### figures from behind -/
/-- The figures of 'n', at least 'k' of them; as many rounds as told. -/
def dig : Nat → Int → Nat → List UInt8
  | 0, _, _ => []
  | f + 1, n, k => if 0 < n ∨ 0 < k then dig f (n / 10) (k - 1) ++ [fig (n % 10)] else []
theorem dig_on {f k : Nat} {n : Int} (h : 0 < n ∨ 0 < k) : dig (f + 1) n k = dig f (n / 10) (k - 1) ++ [fig (n % 10)] := by
  simp only [dig]
  rw [if_pos h]
theorem dig_off {f k : Nat} {n : Int} (h : ¬ (0 < n ∨ 0 < k)) : dig f n k = [] := by
  cases f with
  | zero => rfl
  | succ f =>
    simp only [dig]
    rw [if_neg h]
theorem dig_dec {n : Int} (h0 : 0 ≤ n) (h1 : n ≤ 999) : dig 3 n 1 = dec n := by
  unfold dec
  rw [dig_on (Or.inr (by omega))]
  by_cases a : n < 10
  · rw [if_pos a, dig_off (by omega), show n % 10 = n by omega]
    rfl
  · rw [if_neg a, dig_on (Or.inl (by omega))]
    by_cases b : n < 100
    · rw [if_pos b, dig_off (by omega), show n / 10 % 10 = n / 10 by omega]
      rfl
    · rw [if_neg b, dig_on (Or.inl (by omega)), dig_off (by omega), show n / 10 / 10 % 10 = n / 100 by omega]
      rfl
theorem dig_two {n : Int} (h0 : 0 ≤ n) (h1 : n ≤ 99) : dig 3 n 2 = two n := by
  unfold two
  rw [dig_on (Or.inr (by omega)), dig_on (Or.inr (by omega)), dig_off (by omega), show n / 10 % 10 = n / 10 by omega]
  rfl

/-! ### read loosely -/
structure Ls where
  less : Bool
  all : Int
def lstep (s : Ls) (b : UInt8) : Ls := ⟨s.less || b == 45, if 48 ≤ b.toNat ∧ b.toNat ≤ 57 then 10 * s.all + ((b.toNat : Int) - 48) else s.all⟩
def lrun (t : List UInt8) (s : Ls) : Ls := t.foldl lstep s
theorem lrun_append (x y : List UInt8) (s : Ls) : lrun (x ++ y) s = lrun y (lrun x s) := by simp [lrun]
theorem lrun_cons (b : UInt8) (r : List UInt8) (s : Ls) : lrun (b :: r) s = lrun r (lstep s b) := rfl
theorem lstep_fig {n : Int} (h0 : 0 ≤ n) (h1 : n ≤ 9) (s : Ls) : lstep s (fig n) = ⟨s.less, 10 * s.all + n⟩ := by
  have a := fig_nat h0 h1
  have e : (fig n == 45) = false := by simpa using fig_ne h0 h1
  unfold lstep
  rw [if_pos (by omega), e]
  simp
  omega
theorem lstep_oth {b : UInt8} (h : ¬ (48 ≤ b.toNat ∧ b.toNat ≤ 57)) (h' : (b == 45) = false) (s : Ls) : lstep s b = s := by
  unfold lstep
  rw [if_neg h, h']
  simp
theorem lrun_dec {d : Int} (h0 : 0 ≤ d) (h1 : d ≤ 360) (l : Bool) : lrun (dec d) ⟨l, 0⟩ = ⟨l, d⟩ := by
  unfold dec
  split
  · simp only [lrun, List.foldl]
    rw [lstep_fig h0 (by omega)]
    simp
  · split
    · simp only [lrun, List.foldl]
      rw [lstep_fig (by omega) (by omega), lstep_fig (by omega) (by omega)]
      simp
      omega
    · simp only [lrun, List.foldl]
      rw [lstep_fig (by omega) (by omega), lstep_fig (by omega) (by omega), lstep_fig (by omega) (by omega)]
      simp
      omega
theorem lrun_two {d : Int} (h0 : 0 ≤ d) (h1 : d ≤ 99) (l : Bool) (x : Int) : lrun (two d) ⟨l, x⟩ = ⟨l, 100 * x + d⟩ := by
  unfold two
  simp only [lrun, List.foldl]
  rw [lstep_fig (by omega) (by omega), lstep_fig (by omega) (by omega)]
  simp
  omega
def allOf (a : Int) : Int := deg a * 1000000 + mi a * 10000 + se a * 100 + hu a
theorem lrun_body {a : Int} (h : inT a = true) (l : Bool) : lrun (body a) ⟨l, 0⟩ = ⟨l, allOf a⟩ := by
  obtain ⟨⟨d0, d1⟩, ⟨m0, m1⟩, ⟨s0, s1⟩, h0, h1⟩ := parts_in h
  unfold body allOf
  rw [lrun_append, lrun_dec d0 d1, lrun_cons, lstep_oth (by decide) (by decide), lrun_append, lrun_two m0 (by omega), lrun_cons, lstep_oth (by decide) (by decide), lrun_append, lrun_two s0 (by omega), lrun_cons, lstep_oth (by decide) (by decide), lrun_append, lrun_two h0 (by omega), lrun_cons, lstep_oth (by decide) (by decide)]
  simp only [lrun, List.foldl, Ls.mk.injEq, true_and]
  omega
/-- The text of an angle, read loosely, gives its parts. -/
theorem lrun_text {a : Int} (h : inT a = true) : lrun (text a) ⟨false, 0⟩ = ⟨decide (a < 0), allOf a⟩ := by
  unfold text
  by_cases c : a < 0
  · rw [if_pos c, lrun_cons]
    have : lstep ⟨false, 0⟩ 45 = ⟨true, 0⟩ := rfl
    rw [this, lrun_body h, decide_eq_true c]
  · rw [if_neg c, lrun_body h, decide_eq_false c]
theorem all_parts {a : Int} (h : inT a = true) : allOf a / 1000000 = deg a ∧ allOf a / 10000 % 100 = mi a ∧ allOf a / 100 % 100 = se a ∧ allOf a % 100 = hu a ∧ 0 ≤ allOf a ∧ allOf a ≤ 361000000 := by
  obtain ⟨⟨d0, d1⟩, ⟨m0, m1⟩, ⟨s0, s1⟩, h0, h1⟩ := parts_in h
  unfold allOf
  omega
theorem low_two {n : Int} (h0 : 0 ≤ n) (h1 : n ≤ 99) {b : UInt8} (h : b ∈ two n) : b.toNat < 128 := by
  simp only [two, List.mem_cons, List.not_mem_nil, or_false] at h
  rcases h with rfl | rfl
  · have := fig_nat (n := n / 10) (by omega) (by omega); omega
  · have := fig_nat (n := n % 10) (by omega) (by omega); omega
theorem low_dec {n : Int} (h0 : 0 ≤ n) (h1 : n ≤ 360) {b : UInt8} (h : b ∈ dec n) : b.toNat < 128 := by
  unfold dec at h
  split at h
  · simp only [List.mem_cons, List.not_mem_nil, or_false] at h
    subst h
    have := fig_nat (n := n) (by omega) (by omega); omega
  · split at h
    · simp only [List.mem_cons, List.not_mem_nil, or_false] at h
      rcases h with rfl | rfl
      · have := fig_nat (n := n / 10) (by omega) (by omega); omega
      · have := fig_nat (n := n % 10) (by omega) (by omega); omega
    · simp only [List.mem_cons, List.not_mem_nil, or_false] at h
      rcases h with rfl | rfl | rfl
      · have := fig_nat (n := n / 100) (by omega) (by omega); omega
      · have := fig_nat (n := n / 10 % 10) (by omega) (by omega); omega
      · have := fig_nat (n := n % 10) (by omega) (by omega); omega
/-- A text of an angle is plain ASCII. -/
theorem low_text {a : Int} (h : inT a = true) {b : UInt8} (hb : b ∈ text a) : b.toNat < 128 := by
  obtain ⟨⟨d0, d1⟩, ⟨m0, m1⟩, ⟨s0, s1⟩, h0, h1⟩ := parts_in h
  have k : b ∈ body a → b.toNat < 128 := fun hb => by
    unfold body at hb
    simp only [List.mem_append, List.mem_cons, List.not_mem_nil, or_false] at hb
    rcases hb with hb | rfl | hb | rfl | hb | rfl | hb | rfl
    · exact low_dec d0 d1 hb
    · decide
    · exact low_two m0 (by omega) hb
    · decide
    · exact low_two s0 (by omega) hb
    · decide
    · exact low_two h0 (by omega) hb
    · decide
  unfold text at hb
  split at hb
  · rcases List.mem_cons.1 hb with rfl | hb
    · decide
    · exact k hb
  · exact k hb
end AT
end Go.Proofs.Ytfdkpcejjcifgau
