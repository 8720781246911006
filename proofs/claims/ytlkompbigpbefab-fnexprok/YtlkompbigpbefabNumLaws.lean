/-
  Plain laws of rounding: what is left, halves, turning about, more and more, and dividing by one. No Go text in sight.
-/
import Derived.Test.YtlkompbigpbefabNumMath
namespace Go.Proofs.Ytlkompbigpbefab
namespace NM

theorem ok_round {a b y : Int} (h : roundB a b y = true) : okB a b = true ∧ wayB y = true := by
  simpa [roundB] using h
theorem v1 {a b : Int} (h : okB a b = true) : roundV a b 1 = down a b := roundV_of (roundB_of h way1)
theorem v2 {a b : Int} (h : okB a b = true) : roundV a b 2 = up a b := roundV_of (roundB_of h way2)
theorem v3 {a b : Int} (h : okB a b = true) : roundV a b 3 = a.tdiv b := roundV_of (roundB_of h way3)
theorem v4 {a b : Int} (h : okB a b = true) : roundV a b 4 = even a b := roundV_of (roundB_of h way4)
theorem ok_neg {a b : Int} (h : okB a b = true) : okB (-a) b = true := by
  have := ok_of h
  exact ok_mk (by omega)
theorem ok_one {a b : Int} (h : okB a b = true) : okB a 1 = true := by
  have := ok_of h
  exact ok_mk (by omega)

/-- What is left, rounded down. -/
theorem left_in {a b : Int} (h : okB a b = true) : 0 ≤ a - roundV a b 1 * b ∧ a - roundV a b 1 * b < b := by
  have := ok_of h
  rw [v1 h]
  have := down_mul a b (by omega)
  omega
theorem v_bd {a b y : Int} : -1152921504606846977 ≤ roundV a b y ∧ roundV a b y ≤ 1152921504606846977 := by
  cases h : roundB a b y
  · rw [roundV_no h]; omega
  · obtain ⟨h1, h2⟩ := ok_round h
    have hk := ok_of h1
    have d := div_bd a b (by omega) (by omega) (by omega)
    have d2 := div_bd (-a) b (by omega) (by omega) (by omega)
    have t := tdiv_bd a b (by omega) (by omega) (by omega)
    rcases way_cases h2 with rfl | rfl | rfl | rfl
    · rw [v1 h1]; unfold down; omega
    · rw [v2 h1]; unfold up; omega
    · rw [v3 h1]; omega
    · rw [v4 h1]; unfold even down; split <;> omega

/-- Rounded up is rounded down of the contrary, turned about. -/
theorem up_turn {a b : Int} (h : okB a b = true) : roundV a b 2 = -roundV (-a) b 1 := by
  rw [v2 h, v1 (ok_neg h)]; rfl

theorem up_down {a b : Int} (hb : 1 ≤ b) : up a b = down a b ∧ down a b * b = a ∨ up a b = down a b + 1 ∧ down a b * b < a := by
  have h1 := down_mul a b hb
  have h2 := down_mul (-a) b hb
  have e : up a b = -down (-a) b := rfl
  rw [e]
  generalize down a b = d at *
  generalize down (-a) b = f at *
  have k1 : (d + f) * b = d * b + f * b := Int.add_mul _ _ _
  by_cases c : d * b = a
  · left
    refine ⟨?_, c⟩
    have g1 : (d + f) * b ≤ 0 := by omega
    have g2 : -b < (d + f) * b := by omega
    by_cases z : d + f = 0
    · omega
    · exfalso
      rcases (show d + f ≤ -1 ∨ 1 ≤ d + f by omega) with z | z
      · have := Int.mul_le_mul_of_nonneg_right z (show 0 ≤ b by omega)
        omega
      · have := Int.mul_le_mul_of_nonneg_right z (show 0 ≤ b by omega)
        omega
  · right
    refine ⟨?_, by omega⟩
    have g1 : (d + f) * b < 0 := by omega
    have g2 : -(2 * b) < (d + f) * b := by omega
    by_cases z : d + f = -1
    · omega
    · exfalso
      rcases (show d + f ≤ -2 ∨ 0 ≤ d + f by omega) with z | z
      · have := Int.mul_le_mul_of_nonneg_right z (show 0 ≤ b by omega)
        omega
      · have := Int.mul_nonneg z (show 0 ≤ b by omega)
        omega

theorem even_or {a b : Int} (hb : 1 ≤ b) : even a b = down a b ∨ even a b = up a b := by
  rcases up_down (a := a) hb with ⟨e, k⟩ | ⟨e, k⟩
  · left
    exact (even_4 (by omega) (by omega)).symm
  · unfold even
    split
    · right; omega
    · left; rfl

/-- What is rounded is rounded down, or up. -/
theorem round_or {a b y : Int} (h : roundB a b y = true) : roundV a b y = roundV a b 1 ∨ roundV a b y = roundV a b 2 := by
  obtain ⟨h1, h2⟩ := ok_round h
  have hk := ok_of h1
  rw [v1 h1, v2 h1]
  rcases way_cases h2 with rfl | rfl | rfl | rfl
  · left; exact v1 h1
  · right; exact v2 h1
  · rw [v3 h1]
    by_cases c : a < 0
    · right; exact tdiv_up c
    · left; exact tdiv_down (by omega)
  · rw [v4 h1]
    exact even_or (by omega)

/-- To the nearest, of two to the even one. -/
theorem even_less {a b : Int} (h : okB a b = true) (c : 2 * (a - roundV a b 1 * b) < b) : roundV a b 4 = roundV a b 1 := by
  rw [v1 h] at *
  rw [v4 h]
  exact (even_4 (by omega) (by omega)).symm
theorem even_more {a b : Int} (h : okB a b = true) (c : b < 2 * (a - roundV a b 1 * b)) : roundV a b 4 = roundV a b 1 + 1 := by
  rw [v1 h] at *
  rw [v4 h]
  exact (even_1 c).symm
theorem tmod2 (d : Int) : d.tmod 2 = 0 ↔ d % 2 = 0 := by
  have h1 := Int.tmod_eq_emod (a := d) (b := 2)
  have h2 := Int.emod_nonneg d (show (2 : Int) ≠ 0 by omega)
  split at h1
  · rw [h1]
    simp
  · rename_i c
    rw [h1]
    simp
    omega
theorem odd_next (d : Int) (h : d.tmod 2 ≠ 0) : (d + 1).tmod 2 = 0 := by
  have k := mt (tmod2 d).2 h
  rw [tmod2]
  omega
theorem half_turn (d : Int) : (-d - 1).tmod 2 = 0 ↔ d.tmod 2 ≠ 0 := by
  rw [ne_eq, tmod2, tmod2]
  omega
theorem even_half {a b : Int} (h : okB a b = true) (c : 2 * (a - roundV a b 1 * b) = b) : (roundV a b 4).tmod 2 = 0 := by
  rw [v1 h] at c
  rw [v4 h]
  unfold even
  by_cases k : (down a b).tmod 2 = 0
  · rw [if_neg (fun x => x.elim (fun x => by omega) (fun x => x.2 k))]
    exact k
  · rw [if_pos (.inr ⟨c, k⟩)]
    exact odd_next _ k

/-- Towards nought. -/
theorem zero_down {a b : Int} (h : okB a b = true) (c : 0 ≤ a) : roundV a b 3 = roundV a b 1 := by
  rw [v3 h, v1 h]; exact tdiv_down c
theorem zero_up {a b : Int} (h : okB a b = true) (c : a < 0) : roundV a b 3 = roundV a b 2 := by
  rw [v3 h, v2 h]; exact tdiv_up c

/-- Below nought rounding is turned about. -/
theorem turn_1 {a b : Int} (h : okB a b = true) : roundV (-a) b 2 = -roundV a b 1 := by
  rw [v2 (ok_neg h), v1 h]; unfold up down; rw [Int.neg_neg]
theorem turn_2 {a b : Int} (h : okB a b = true) : roundV (-a) b 1 = -roundV a b 2 := by
  rw [v1 (ok_neg h), v2 h]; unfold up down; rw [Int.neg_neg]
theorem turn_3 {a b : Int} (h : okB a b = true) : roundV (-a) b 3 = -roundV a b 3 := by
  rw [v3 (ok_neg h), v3 h]; exact Int.neg_tdiv a b
theorem turn_4 {a b : Int} (h : okB a b = true) : roundV (-a) b 4 = -roundV a b 4 := by
  have hk := ok_of h
  rw [v4 (ok_neg h), v4 h]
  have e : down (-a) b = -up a b := by unfold down up; rw [Int.neg_neg]
  rcases up_down (a := a) (b := b) (by omega) with ⟨u, k⟩ | ⟨u, k⟩
  · have g : down (-a) b = -down a b := by omega
    have m : down (-a) b * b = -(down a b * b) := by rw [g, Int.neg_mul]
    rw [← even_4 (a := a) (b := b) (by omega) (by omega), ← even_4 (a := -a) (b := b) (by omega) (by omega)]
    exact g
  · have g : down (-a) b = -down a b - 1 := by omega
    have m : down (-a) b * b = -(down a b * b) - b := by rw [g, Int.sub_mul, Int.neg_mul]; omega
    by_cases c1 : b < 2 * (a - down a b * b)
    · rw [← even_1 c1, ← even_4 (a := -a) (b := b) (by omega) (by omega)]
      omega
    · by_cases c2 : 2 * (a - down a b * b) < b
      · rw [← even_4 (a := a) (b := b) (by omega) (by omega), ← even_1 (a := -a) (b := b) (by omega)]
        omega
      · cases c3 : (down a b).tmod 2 != 0
        · have c4 : ((down (-a) b).tmod 2 != 0) = true := by
            have := half_turn (down a b)
            rw [g]
            simp at c3 ⊢
            simp [this, c3]
          rw [← even_3 (a := a) (b := b) (by omega) c3, ← even_2 (a := -a) (b := b) (by omega) c4]
          omega
        · have c4 : ((down (-a) b).tmod 2 != 0) = false := by
            have := half_turn (down a b)
            rw [g]
            simp at c3 ⊢
            exact this.2 c3
          rw [← even_2 (a := a) (b := b) (by omega) c3, ← even_3 (a := -a) (b := b) (by omega) c4]
          omega

/-- What is more is not rounded to less. -/
theorem down_mono {a c b : Int} (hb : 1 ≤ b) (h : a ≤ c) : down a b ≤ down c b := Int.ediv_le_ediv (by omega) h
theorem up_mono {a c b : Int} (hb : 1 ≤ b) (h : a ≤ c) : up a b ≤ up c b := by
  have := Int.ediv_le_ediv (c := b) (by omega) (show -c ≤ -a by omega)
  unfold up
  omega
theorem even_mono {a c b : Int} (hb : 1 ≤ b) (h : a ≤ c) : even a b ≤ even c b := by
  have hd := down_mono hb h
  by_cases e : down a b = down c b
  · unfold even
    rw [e]
    generalize down c b = d at *
    split
    · rename_i k
      rw [if_pos]
      · exact Int.le_refl _
      · rcases k with k | ⟨k1, k2⟩
        · exact .inl (by omega)
        · by_cases z : 2 * (c - d * b) = b
          · exact .inr ⟨z, k2⟩
          · exact .inl (by omega)
    · split <;> omega
  · have h1 : even a b ≤ down a b + 1 := by unfold even; split <;> omega
    have h2 : down c b ≤ even c b := by unfold even; split <;> omega
    omega
theorem more {a c b y : Int} (h : a ≤ c) (h1 : roundB a b y = true) (h2 : roundB c b y = true) : roundV a b y ≤ roundV c b y := by
  obtain ⟨k1, k⟩ := ok_round h1
  obtain ⟨k2, _⟩ := ok_round h2
  have hk := ok_of k1
  have hb : 1 ≤ b := by omega
  rcases way_cases k with rfl | rfl | rfl | rfl
  · rw [v1 k1, v1 k2]; exact down_mono hb h
  · rw [v2 k1, v2 k2]; exact up_mono hb h
  · rw [v3 k1, v3 k2]
    by_cases z1 : a < 0
    · by_cases z2 : c < 0
      · rw [tdiv_up z1, tdiv_up z2]; exact up_mono hb h
      · rw [tdiv_up z1, tdiv_down (show 0 ≤ c by omega)]
        have q1 : 0 ≤ (-a) / b := Int.ediv_nonneg (by omega) (by omega)
        have q2 : 0 ≤ c / b := Int.ediv_nonneg (by omega) (by omega)
        unfold up down
        omega
    · rw [tdiv_down (show 0 ≤ a by omega), tdiv_down (show 0 ≤ c by omega)]; exact down_mono hb h
  · rw [v4 k1, v4 k2]; exact even_mono hb h

/-- Divided by one nothing is rounded. -/
theorem whole {a b y : Int} (h : roundB a b y = true) : roundB a 1 y = true ∧ roundV a 1 y = a := by
  obtain ⟨h1, h2⟩ := ok_round h
  have k := ok_one h1
  refine ⟨roundB_of k h2, ?_⟩
  have d : down a 1 = a := by unfold down; omega
  rcases way_cases h2 with rfl | rfl | rfl | rfl
  · rw [v1 k]; exact d
  · rw [v2 k]; unfold up; omega
  · rw [v3 k]; exact Int.tdiv_one a
  · rw [v4 k, ← even_4 (a := a) (b := 1) (by rw [d]; omega) (by rw [d]; omega)]; exact d

end NM
end Go.Proofs.Ytlkompbigpbefab
