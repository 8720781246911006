/-
  Plain facts on whole numbers: dividing rounded down, up, towards nought and to even. No Go text in sight.
-/
import Derived.RowKit
namespace Go.Proofs.Ytlkompbigpbefab
namespace NM

theorem tdiv_nonneg_case (a b : Int) (hb : 1 ≤ b) (h : ¬ a.tmod b < 0) : a.tdiv b = a / b := by
  have h1 := Int.tdiv_eq_ediv (a := a) (b := b)
  have h2 := Int.tmod_eq_emod (a := a) (b := b)
  have h3 := Int.emod_lt_of_pos a (show 0 < b by omega)
  have h4 : b.sign = 1 := Int.sign_eq_one_of_pos (by omega)
  have h5 : (b.natAbs : Int) = b := by omega
  split at h1
  · omega
  · rename_i hh
    simp [hh] at h2
    omega

theorem tdiv_neg_case (a b : Int) (hb : 1 ≤ b) (h : a.tmod b < 0) : a.tdiv b - 1 = a / b := by
  have h1 := Int.tdiv_eq_ediv (a := a) (b := b)
  have h2 := Int.tmod_eq_emod (a := a) (b := b)
  have h3 := Int.emod_nonneg a (show b ≠ 0 by omega)
  have h4 : b.sign = 1 := Int.sign_eq_one_of_pos (by omega)
  split at h1
  · rename_i hh
    simp [hh] at h2
    omega
  · omega

theorem up_case (a b : Int) (hb : 1 ≤ b) : -((-a + b - 1) / b) = a / b := by
  have e := Int.mul_ediv_add_emod a b
  have h3 := Int.emod_nonneg a (show b ≠ 0 by omega)
  have h4 := Int.emod_lt_of_pos a (show 0 < b by omega)
  have : (-a + b - 1) / b = -(a / b) := by
    rw [Int.ediv_eq_iff_of_pos (by omega)]
    have : (-(a / b)) * b = - (b * (a / b)) := by rw [Int.neg_mul, Int.mul_comm]
    omega
  omega

theorem div_bd (a b : Int) (hb : 1 ≤ b) (h1 : -1152921504606846976 ≤ a) (h2 : a ≤ 1152921504606846976) : -1152921504606846976 ≤ a / b ∧ a / b ≤ 1152921504606846976 := by
  have : (1152921504606846976 : Int) * 1 ≤ 1152921504606846976 * b := Int.mul_le_mul_of_nonneg_left hb (by omega)
  constructor
  · rw [Int.le_ediv_iff_mul_le (by omega)]
    omega
  · apply Int.ediv_le_of_le_mul (by omega)
    omega

theorem tdiv_bd (a b : Int) (hb : 1 ≤ b) (h1 : -1152921504606846976 ≤ a) (h2 : a ≤ 1152921504606846976) : -1152921504606846976 ≤ a.tdiv b ∧ a.tdiv b ≤ 1152921504606846977 := by
  have := div_bd a b hb h1 h2
  by_cases h : a.tmod b < 0
  · have := tdiv_neg_case a b hb h; omega
  · have := tdiv_nonneg_case a b hb h; omega

/-- May 'a' be divided by 'b'? -/
def okB (a b : Int) : Bool := decide (-1152921504606846976 ≤ a ∧ a ≤ 1152921504606846976 ∧ 1 ≤ b ∧ b ≤ 1152921504606846976)
theorem ok_of {a b : Int} (h : okB a b = true) : -1152921504606846976 ≤ a ∧ a ≤ 1152921504606846976 ∧ 1 ≤ b ∧ b ≤ 1152921504606846976 := of_decide_eq_true h
theorem ok_mk {a b : Int} (h : -1152921504606846976 ≤ a ∧ a ≤ 1152921504606846976 ∧ 1 ≤ b ∧ b ≤ 1152921504606846976) : okB a b = true := decide_eq_true h
theorem ok_not {a b : Int} (h : ¬ (-1152921504606846976 ≤ a ∧ a ≤ 1152921504606846976 ∧ 1 ≤ b ∧ b ≤ 1152921504606846976)) : okB a b = false := decide_eq_false h
theorem not_ok {a b : Int} (h : okB a b = false) : ¬ (-1152921504606846976 ≤ a ∧ a ≤ 1152921504606846976 ∧ 1 ≤ b ∧ b ≤ 1152921504606846976) := of_decide_eq_false h
def inB (n lo hi : Int) : Bool := decide (lo ≤ n ∧ n ≤ hi)
def wayB (y : Int) : Bool := decide (1 ≤ y ∧ y ≤ 4)

/-- 'a' divided by 'b', rounded down; up; to the nearest, of two to the even one; by a way. -/
def down (a b : Int) : Int := a / b
def up (a b : Int) : Int := -((-a) / b)
def even (a b : Int) : Int := if b < 2 * (a - down a b * b) ∨ 2 * (a - down a b * b) = b ∧ (down a b).tmod 2 ≠ 0 then down a b + 1 else down a b
theorem even_1 {a b : Int} (h : b < 2 * (a - down a b * b)) : down a b + 1 = even a b := by unfold even; rw [if_pos (.inl h)]
theorem even_2 {a b : Int} (h : 2 * (a - down a b * b) = b) (k : ((down a b).tmod 2 != 0) = true) : down a b + 1 = even a b := by
  unfold even; rw [if_pos (.inr ⟨h, by simpa using k⟩)]
theorem even_3 {a b : Int} (h : 2 * (a - down a b * b) = b) (k : ((down a b).tmod 2 != 0) = false) : down a b = even a b := by
  unfold even; rw [if_neg (fun x => x.elim (fun x => by omega) (fun x => x.2 (by simpa using k)))]
theorem even_4 {a b : Int} (h : 2 * (a - down a b * b) ≤ b) (k : ¬ 2 * (a - down a b * b) = b) : down a b = even a b := by
  unfold even; rw [if_neg (by omega)]
theorem even_5 {a b : Int} (h : b - (a - down a b * b) < a - down a b * b) : down a b + 1 = even a b := even_1 (by omega)
theorem even_6 {a b : Int} (h : a - down a b * b = b - (a - down a b * b)) (k : ((down a b).tmod 2 != 0) = true) : down a b + 1 = even a b := even_2 (by omega) k
theorem even_7 {a b : Int} (h : a - down a b * b = b - (a - down a b * b)) (k : ((down a b).tmod 2 != 0) = false) : down a b = even a b := even_3 (by omega) k
theorem even_8 {a b : Int} (h : a - down a b * b ≤ b - (a - down a b * b)) (k : ¬ a - down a b * b = b - (a - down a b * b)) : down a b = even a b := even_4 (by omega) (by omega)
def rnd (a b y : Int) : Int := if y = 1 then down a b else if y = 2 then up a b else if y = 3 then a.tdiv b else even a b
def roundB (a b y : Int) : Bool := okB a b && wayB y
def roundV (a b y : Int) : Int := if roundB a b y then rnd a b y else 0

theorem roundB_of {a b y : Int} (h : okB a b = true) (k : wayB y = true) : roundB a b y = true := by simp [roundB, h, k]
theorem roundB_no1 {a b y : Int} (h : okB a b = false) : roundB a b y = false := by simp [roundB, h]
theorem roundB_no2 {a b y : Int} (k : wayB y = false) : roundB a b y = false := by simp [roundB, k]
theorem roundV_no {a b y : Int} (h : roundB a b y = false) : roundV a b y = 0 := by simp [roundV, h]
theorem roundV_of {a b y : Int} (h : roundB a b y = true) : roundV a b y = rnd a b y := by simp [roundV, h]
theorem way_cases {y : Int} (h : wayB y = true) : y = 1 ∨ y = 2 ∨ y = 3 ∨ y = 4 := by
  have := of_decide_eq_true h
  omega
theorem way1 : wayB 1 = true := rfl
theorem way2 : wayB 2 = true := rfl
theorem way3 : wayB 3 = true := rfl
theorem way4 : wayB 4 = true := rfl
theorem rnd1 (a b : Int) : rnd a b 1 = down a b := rfl
theorem rnd2 (a b : Int) : rnd a b 2 = up a b := rfl
theorem rnd3 (a b : Int) : rnd a b 3 = a.tdiv b := rfl
theorem rnd4 (a b : Int) : rnd a b 4 = even a b := rfl
theorem tdiv_up {a b : Int} (h : a < 0) : a.tdiv b = up a b := by
  have e : a.tdiv b = -((-a).tdiv b) := by rw [Int.neg_tdiv, Int.neg_neg]
  rw [e, Int.tdiv_eq_ediv_of_nonneg (by omega)]
  rfl
theorem tdiv_down {a b : Int} (h : 0 ≤ a) : a.tdiv b = down a b := Int.tdiv_eq_ediv_of_nonneg h

theorem down_mul (a b : Int) (hb : 1 ≤ b) : a - b < down a b * b ∧ down a b * b ≤ a := by
  have e := Int.mul_ediv_add_emod a b
  have h3 := Int.emod_nonneg a (show b ≠ 0 by omega)
  have h4 := Int.emod_lt_of_pos a (show 0 < b by omega)
  unfold down
  rw [Int.mul_comm]
  omega

end NM
end Go.Proofs.Ytlkompbigpbefab
