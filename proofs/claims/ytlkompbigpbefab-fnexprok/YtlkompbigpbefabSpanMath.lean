/-
  Plain facts on spans of whole numbers: sums, products, quotients, roots of their ends. No Go text in sight.
-/
import Derived.Test.YtlkompbigpbefabNumMath
import Derived.Test.YtlkompbigpbefabNumLaws
import Derived.Test.YtlkompbigpbefabRootMath
namespace Go.Proofs.Ytlkompbigpbefab
namespace SM
open NM

def okS (l h : Int) : Bool := decide (-1073000000 ≤ l ∧ l ≤ h ∧ h ≤ 1073000000)
theorem okS_of {l h : Int} (e : okS l h = true) : -1073000000 ≤ l ∧ l ≤ h ∧ h ≤ 1073000000 := of_decide_eq_true e
theorem okS_mk {l h : Int} (e : -1073000000 ≤ l ∧ l ≤ h ∧ h ≤ 1073000000) : okS l h = true := decide_eq_true e
theorem okS_no {l h : Int} (e : ¬ (-1073000000 ≤ l ∧ l ≤ h ∧ h ≤ 1073000000)) : okS l h = false := decide_eq_false e
theorem not_okS {l h : Int} (e : okS l h = false) : ¬ (-1073000000 ≤ l ∧ l ≤ h ∧ h ≤ 1073000000) := of_decide_eq_false e
def ratB (a b : Int) : Bool := decide (-1000000000 ≤ a ∧ a ≤ 1000000000 ∧ 1 ≤ b ∧ b ≤ 1000000000)
theorem ratB_of {a b : Int} (e : ratB a b = true) : -1000000000 ≤ a ∧ a ≤ 1000000000 ∧ 1 ≤ b ∧ b ≤ 1000000000 := of_decide_eq_true e
theorem ratB_mk {a b : Int} (e : -1000000000 ≤ a ∧ a ≤ 1000000000 ∧ 1 ≤ b ∧ b ≤ 1000000000) : ratB a b = true := decide_eq_true e
theorem ratB_no {a b : Int} (e : ¬ (-1000000000 ≤ a ∧ a ≤ 1000000000 ∧ 1 ≤ b ∧ b ≤ 1000000000)) : ratB a b = false := decide_eq_false e
theorem not_ratB {a b : Int} (e : ratB a b = false) : ¬ (-1000000000 ≤ a ∧ a ≤ 1000000000 ∧ 1 ≤ b ∧ b ≤ 1000000000) := of_decide_eq_false e

/-- A number, or 0 where there is none. -/
def sel (c : Bool) (x : Int) : Int := match c with | true => x | false => 0
theorem sel_t (x : Int) : sel true x = x := rfl
theorem sel_f (x : Int) : sel false x = 0 := rfl

/-! ### products -/
theorem mul_bd {x y A B : Int} (h1 : -A ≤ x) (h2 : x ≤ A) (h3 : -B ≤ y) (h4 : y ≤ B) : -(A * B) ≤ x * y ∧ x * y ≤ A * B := by
  have e1 : 0 ≤ (A - x) * (B + y) := Int.mul_nonneg (by omega) (by omega)
  have e2 : 0 ≤ (A + x) * (B - y) := Int.mul_nonneg (by omega) (by omega)
  have e3 : 0 ≤ (A - x) * (B - y) := Int.mul_nonneg (by omega) (by omega)
  have e4 : 0 ≤ (A + x) * (B + y) := Int.mul_nonneg (by omega) (by omega)
  simp only [Int.sub_mul, Int.mul_sub, Int.add_mul, Int.mul_add] at e1 e2 e3 e4
  omega
theorem mul_max {x y : Int} (h1 : -1073000000 ≤ x) (h2 : x ≤ 1073000000) (h3 : -1073000000 ≤ y) (h4 : y ≤ 1073000000) : -1151329000000000000 ≤ x * y ∧ x * y ≤ 1151329000000000000 := by
  have := mul_bd h1 h2 h3 h4
  omega
theorem lin {a b x : Int} (y : Int) (h1 : a ≤ x) (h2 : x ≤ b) : min (a * y) (b * y) ≤ x * y ∧ x * y ≤ max (a * y) (b * y) := by
  by_cases h : 0 ≤ y
  · have e1 := Int.mul_le_mul_of_nonneg_right h1 h
    have e2 := Int.mul_le_mul_of_nonneg_right h2 h
    omega
  · have e1 := Int.mul_le_mul_of_nonpos_right h1 (show y ≤ 0 by omega)
    have e2 := Int.mul_le_mul_of_nonpos_right h2 (show y ≤ 0 by omega)
    omega
theorem corner {a b c d x y : Int} (h1 : a ≤ x) (h2 : x ≤ b) (h3 : c ≤ y) (h4 : y ≤ d) :
    min (min (a * c) (a * d)) (min (b * c) (b * d)) ≤ x * y ∧ x * y ≤ max (max (a * c) (a * d)) (max (b * c) (b * d)) := by
  have e1 := lin y h1 h2
  have e2 := lin a h3 h4
  have e3 := lin b h3 h4
  rw [Int.mul_comm c a, Int.mul_comm d a, Int.mul_comm y a] at e2
  rw [Int.mul_comm c b, Int.mul_comm d b, Int.mul_comm y b] at e3
  omega

/-! ### dividing -/
theorem le_down {a b k : Int} (hb : 1 ≤ b) : k ≤ down a b ↔ k * b ≤ a := Int.le_ediv_iff_mul_le (by omega)
theorem up_le {a b k : Int} (hb : 1 ≤ b) : up a b ≤ k ↔ a ≤ k * b := by
  have := le_down (a := -a) (b := b) (k := -k) hb
  unfold down at this
  unfold up
  rw [Int.neg_mul] at this
  omega
theorem down_lt {a b k : Int} (hb : 1 ≤ b) : down a b < k ↔ a < k * b := by
  have := le_down (a := a) (b := b) (k := k) hb
  omega
theorem lt_up {a b k : Int} (hb : 1 ≤ b) : k < up a b ↔ k * b < a := by
  have := up_le (a := a) (b := b) (k := k) hb
  omega
theorem up_mul (a b : Int) (hb : 1 ≤ b) : a ≤ up a b * b ∧ up a b * b < a + b := by
  have := down_mul (-a) b hb
  have e : up a b = -down (-a) b := rfl
  rw [e, Int.neg_mul]
  omega
theorem down_min {a c b : Int} (hb : 1 ≤ b) : down (min a c) b = min (down a b) (down c b) := by
  by_cases h : a ≤ c
  · have := down_mono hb h
    rw [show min a c = a by omega]; omega
  · have := down_mono hb (show c ≤ a by omega)
    rw [show min a c = c by omega]; omega
theorem up_max {a c b : Int} (hb : 1 ≤ b) : up (max a c) b = max (up a b) (up c b) := by
  by_cases h : a ≤ c
  · have := up_mono hb h
    rw [show max a c = c by omega]; omega
  · have := up_mono hb (show c ≤ a by omega)
    rw [show max a c = a by omega]; omega
theorem down_neg (a b : Int) : down (-a) b = -up a b := by unfold down up; omega
theorem up_neg (a b : Int) : up (-a) b = -down a b := by unfold down up; rw [Int.neg_neg]
theorem down_up {a b : Int} (hb : 1 ≤ b) : down a b ≤ up a b := by have := up_down (a := a) hb; omega
theorem down_whole {a b : Int} (hb : 1 ≤ b) : down (a * b) b = a := Int.mul_ediv_cancel _ (by omega)
theorem up_whole {a b : Int} (hb : 1 ≤ b) : up (a * b) b = a := by unfold up; rw [← Int.neg_mul, Int.mul_ediv_cancel _ (by omega)]; omega
/-- The bounds of a quotient that the walks ask for. -/
theorem du_bd {a b : Int} (hb : 1 ≤ b) (h1 : -1152921504606846976 ≤ a) (h2 : a ≤ 1152921504606846976) : (-1152921504606846976 ≤ down a b ∧ down a b ≤ 1152921504606846976) ∧ -1152921504606846976 ≤ up a b ∧ up a b ≤ 1152921504606846976 := by
  have h := div_bd a b hb h1 h2
  have g := div_bd (-a) b hb (by omega) (by omega)
  unfold down up
  omega

/-! ### the functions -/
def ofLo (a b : Int) : Int := down (1000000000 * a) b
def ofHi (a b : Int) : Int := up (1000000000 * a) b
def ofB (a b : Int) : Bool := ratB a b && okS (ofLo a b) (ofHi a b)
def hasB (l h a b : Int) : Bool := okS l h && (ratB a b && (decide (l * b ≤ 1000000000 * a) && decide (1000000000 * a ≤ h * b)))
def withinB (sl sh tl th : Int) : Bool := okS sl sh && (okS tl th && (decide (tl ≤ sl) && decide (sh ≤ th)))
def bothB (sl sh tl th : Int) : Bool := okS sl sh && okS tl th
def meetB (sl sh tl th : Int) : Bool := bothB sl sh tl th && decide (max sl tl ≤ min sh th)
def addB (sl sh tl th : Int) : Bool := bothB sl sh tl th && okS (sl + tl) (sh + th)
def mulLo (sl sh tl th : Int) : Int := min (min (down (sl * tl) 1000000000) (down (sl * th) 1000000000)) (min (down (sh * tl) 1000000000) (down (sh * th) 1000000000))
def mulHi (sl sh tl th : Int) : Int := max (max (up (sl * tl) 1000000000) (up (sl * th) 1000000000)) (max (up (sh * tl) 1000000000) (up (sh * th) 1000000000))
def mulB (sl sh tl th : Int) : Bool := bothB sl sh tl th && okS (mulLo sl sh tl th) (mulHi sl sh tl th)
/-- 'a' divided by 'b', which is not 0, in parts. -/
def qd (a b : Int) : Int := if b < 0 then down (1000000000 * -a) (-b) else down (1000000000 * a) b
def qu (a b : Int) : Int := if b < 0 then up (1000000000 * -a) (-b) else up (1000000000 * a) b
def divLo (sl sh tl th : Int) : Int := min (min (qd sl tl) (qd sl th)) (min (qd sh tl) (qd sh th))
def divHi (sl sh tl th : Int) : Int := max (max (qu sl tl) (qu sl th)) (max (qu sh tl) (qu sh th))
def apartB (tl th : Int) : Bool := !(decide (tl ≤ 0) && decide (0 ≤ th))
def divB (sl sh tl th : Int) : Bool := bothB sl sh tl th && (apartB tl th && okS (divLo sl sh tl th) (divHi sl sh tl th))

theorem both_of {sl sh tl th : Int} (h : bothB sl sh tl th = true) : okS sl sh = true ∧ okS tl th = true := by
  simpa [bothB] using h
theorem both_mk {sl sh tl th : Int} (h : okS sl sh = true) (g : okS tl th = true) : bothB sl sh tl th = true := by simp [bothB, h, g]
theorem both_no1 {sl sh tl th : Int} (h : okS sl sh = false) : bothB sl sh tl th = false := by simp [bothB, h]
theorem both_no2 {sl sh tl th : Int} (g : okS tl th = false) : bothB sl sh tl th = false := by simp [bothB, g]
theorem both_swap (sl sh tl th : Int) : bothB sl sh tl th = bothB tl th sl sh := Bool.and_comm _ _

theorem mulLo_min {sl sh tl th : Int} : down (min (min (sl * tl) (sl * th)) (min (sh * tl) (sh * th))) 1000000000 = mulLo sl sh tl th := by
  unfold mulLo
  rw [down_min (by omega), down_min (by omega), down_min (by omega)]
theorem mulHi_max {sl sh tl th : Int} : up (max (max (sl * tl) (sl * th)) (max (sh * tl) (sh * th))) 1000000000 = mulHi sl sh tl th := by
  unfold mulHi
  rw [up_max (by omega), up_max (by omega), up_max (by omega)]
theorem mul_le {sl sh tl th : Int} : mulLo sl sh tl th ≤ mulHi sl sh tl th := by
  have := down_up (a := sl * tl) (b := 1000000000) (by omega)
  unfold mulLo mulHi
  omega

/-! ### the laws -/
theorem of_ok {a b : Int} (h : ofB a b = true) : ratB a b = true ∧ okS (ofLo a b) (ofHi a b) = true := by simpa [ofB] using h
theorem of_has {a b : Int} (h : ofB a b = true) : hasB (ofLo a b) (ofHi a b) a b = true := by
  obtain ⟨h1, h2⟩ := of_ok h
  have hr := ratB_of h1
  have e1 := down_mul (1000000000 * a) b (by omega)
  have e2 := up_mul (1000000000 * a) b (by omega)
  simp only [hasB, h1, h2, Bool.true_and, Bool.and_eq_true, decide_eq_true_eq]
  exact ⟨e1.2, e2.1⟩
theorem of_wide {a b : Int} (h : ratB a b = true) : ofHi a b - ofLo a b ≤ 1 ∧ ofLo a b ≤ ofHi a b := by
  have hr := ratB_of h
  have := up_down (a := 1000000000 * a) (b := b) (by omega)
  unfold ofLo ofHi
  omega
theorem tmod0 {a b : Int} : a.tmod b = 0 ↔ down a b * b = a := by
  constructor
  · intro h
    have d : b ∣ a := Int.dvd_of_tmod_eq_zero h
    exact Int.ediv_mul_cancel d
  · intro h
    rw [← h]
    exact Int.mul_tmod_left _ _
theorem of_exact {a b : Int} (h : ratB a b = true) : (ofHi a b = ofLo a b) ↔ (1000000000 * a).tmod b = 0 := by
  have hr := ratB_of h
  rw [tmod0]
  have := up_down (a := 1000000000 * a) (b := b) (by omega)
  unfold ofLo ofHi
  omega
theorem has_within {l h a b : Int} (e : ofB a b = true) : hasB l h a b = withinB (ofLo a b) (ofHi a b) l h := by
  obtain ⟨h1, h2⟩ := of_ok e
  have hr := ratB_of h1
  have e1 := le_down (a := 1000000000 * a) (b := b) (k := l) (by omega)
  have e2 := up_le (a := 1000000000 * a) (b := b) (k := h) (by omega)
  rw [show hasB l h a b = (okS l h && (decide (l ≤ ofLo a b) && decide (ofHi a b ≤ h))) by simp only [hasB, h1, Bool.true_and, ofLo, ofHi, e1, e2]]
  simp only [withinB, h2, Bool.true_and]
theorem within_of {sl sh tl th : Int} (h : withinB sl sh tl th = true) : okS sl sh = true ∧ okS tl th = true ∧ tl ≤ sl ∧ sh ≤ th := by
  simpa [withinB] using h
theorem within_mk {sl sh tl th : Int} (h : okS sl sh = true) (g : okS tl th = true) (e1 : tl ≤ sl) (e2 : sh ≤ th) : withinB sl sh tl th = true := by
  simp [withinB, h, g, e1, e2]
theorem within_self (l h : Int) : withinB l h l h = okS l h := by simp [withinB]
theorem within_anti {sl sh tl th : Int} (h : withinB sl sh tl th = true) (g : withinB tl th sl sh = true) : sl = tl ∧ sh = th := by
  have := within_of h
  have := within_of g
  omega
theorem within_trans {sl sh tl th ul uh : Int} (h : withinB sl sh tl th = true) (g : withinB tl th ul uh = true) : withinB sl sh ul uh = true := by
  have h := within_of h
  have g := within_of g
  exact within_mk h.1 g.2.1 (by omega) (by omega)
theorem hull_ok {sl sh tl th : Int} (h : okS sl sh = true) (g : okS tl th = true) : okS (min sl tl) (max sh th) = true := by
  have := okS_of h
  have := okS_of g
  exact okS_mk (by omega)
theorem hull_1 {sl sh tl th : Int} (h : okS sl sh = true) (g : okS tl th = true) : withinB sl sh (min sl tl) (max sh th) = true := within_mk h (hull_ok h g) (by omega) (by omega)
theorem hull_2 {sl sh tl th : Int} (h : okS sl sh = true) (g : okS tl th = true) : withinB tl th (min sl tl) (max sh th) = true := within_mk g (hull_ok h g) (by omega) (by omega)
theorem hull_3 {sl sh tl th ul uh : Int} (h : withinB sl sh ul uh = true) (g : withinB tl th ul uh = true) : withinB (min sl tl) (max sh th) ul uh = true := by
  have h := within_of h
  have g := within_of g
  exact within_mk (hull_ok h.1 g.1) h.2.1 (by omega) (by omega)
theorem has_of {l h a b : Int} (e : hasB l h a b = true) : okS l h = true ∧ ratB a b = true ∧ l * b ≤ 1000000000 * a ∧ 1000000000 * a ≤ h * b := by
  simpa [hasB] using e
theorem has_mk {l h a b : Int} (e1 : okS l h = true) (e2 : ratB a b = true) (e3 : l * b ≤ 1000000000 * a) (e4 : 1000000000 * a ≤ h * b) : hasB l h a b = true := by
  simp [hasB, e1, e2, e3, e4]
theorem bool_eq {p q : Bool} (h : p = true → q = true) (g : q = true → p = true) : p = q := by
  cases p <;> cases q <;> simp_all
theorem meet_of {sl sh tl th : Int} (h : meetB sl sh tl th = true) : okS sl sh = true ∧ okS tl th = true ∧ okS (max sl tl) (min sh th) = true := by
  simp only [meetB, Bool.and_eq_true, decide_eq_true_eq] at h
  obtain ⟨h1, h2⟩ := both_of h.1
  have := okS_of h1
  have := okS_of h2
  exact ⟨h1, h2, okS_mk (by omega)⟩
theorem meet_has {sl sh tl th a b : Int} (h : meetB sl sh tl th = true) : (hasB sl sh a b && hasB tl th a b) = hasB (max sl tl) (min sh th) a b := by
  obtain ⟨h1, h2, h3⟩ := meet_of h
  apply bool_eq
  · intro e
    simp only [Bool.and_eq_true] at e
    have e1 := has_of e.1
    have e2 := has_of e.2
    refine has_mk h3 e1.2.1 ?_ ?_
    · rcases (show max sl tl = sl ∨ max sl tl = tl by omega) with k | k <;> rw [k] <;> omega
    · rcases (show min sh th = sh ∨ min sh th = th by omega) with k | k <;> rw [k] <;> omega
  · intro e
    have e1 := has_of e
    have hr := ratB_of e1.2.1
    have f1 := Int.mul_le_mul_of_nonneg_right (show sl ≤ max sl tl by omega) (show 0 ≤ b by omega)
    have f2 := Int.mul_le_mul_of_nonneg_right (show tl ≤ max sl tl by omega) (show 0 ≤ b by omega)
    have f3 := Int.mul_le_mul_of_nonneg_right (show min sh th ≤ sh by omega) (show 0 ≤ b by omega)
    have f4 := Int.mul_le_mul_of_nonneg_right (show min sh th ≤ th by omega) (show 0 ≤ b by omega)
    rw [has_mk h1 e1.2.1 (by omega) (by omega), has_mk h2 e1.2.1 (by omega) (by omega)]
    rfl
theorem meet_none {sl sh tl th a b : Int} (h : bothB sl sh tl th = true) (g : meetB sl sh tl th = false) : (hasB sl sh a b && hasB tl th a b) = false := by
  cases e : (hasB sl sh a b && hasB tl th a b)
  · rfl
  · exfalso
    simp only [Bool.and_eq_true] at e
    have e1 := has_of e.1
    have e2 := has_of e.2
    have hr := ratB_of e1.2.1
    have k1 := okS_of e1.1
    have k2 := okS_of e2.1
    simp only [meetB, h, Bool.true_and, decide_eq_false_iff_not] at g
    rcases (show sh < tl ∨ th < sl by omega) with k | k
    · have := Int.mul_lt_mul_of_pos_right k (show 0 < b by omega)
      omega
    · have := Int.mul_lt_mul_of_pos_right k (show 0 < b by omega)
      omega
theorem meet_1 {sl sh tl th : Int} (h : meetB sl sh tl th = true) : withinB (max sl tl) (min sh th) sl sh = true := by
  obtain ⟨h1, h2, h3⟩ := meet_of h
  exact within_mk h3 h1 (by omega) (by omega)
theorem meet_2 {sl sh tl th : Int} (h : meetB sl sh tl th = true) : withinB (max sl tl) (min sh th) tl th = true := by
  obtain ⟨h1, h2, h3⟩ := meet_of h
  exact within_mk h3 h2 (by omega) (by omega)
theorem neg_ok {l h : Int} (e : okS l h = true) : okS (-h) (-l) = true := by
  have := okS_of e
  exact okS_mk (by omega)
theorem rat_neg (a b : Int) : ratB (-a) b = ratB a b := by
  apply bool_eq <;> intro h <;> have := ratB_of h <;> exact ratB_mk (by omega)
theorem neg_has {l h a b : Int} (e : okS l h = true) : hasB (-h) (-l) (-a) b = hasB l h a b := by
  have n := neg_ok e
  apply bool_eq <;> intro k <;> have k := has_of k
  · rw [Int.neg_mul, Int.neg_mul] at k
    rw [rat_neg] at k
    exact has_mk e k.2.1 (by omega) (by omega)
  · refine has_mk n (by rw [rat_neg]; exact k.2.1) ?_ ?_ <;> rw [Int.neg_mul] <;> omega
theorem add_of {sl sh tl th : Int} (h : addB sl sh tl th = true) : okS sl sh = true ∧ okS tl th = true ∧ okS (sl + tl) (sh + th) = true := by
  simp only [addB, Bool.and_eq_true] at h
  obtain ⟨h1, h2⟩ := both_of h.1
  exact ⟨h1, h2, h.2⟩
theorem add_mk {sl sh tl th : Int} (h : okS sl sh = true) (g : okS tl th = true) (e : okS (sl + tl) (sh + th) = true) : addB sl sh tl th = true := by simp [addB, both_mk h g, e]
theorem add_swap (sl sh tl th : Int) : addB tl th sl sh = addB sl sh tl th := by
  unfold addB
  rw [both_swap, Int.add_comm tl, Int.add_comm th]
theorem mul_of {sl sh tl th : Int} (h : mulB sl sh tl th = true) : okS sl sh = true ∧ okS tl th = true ∧ okS (mulLo sl sh tl th) (mulHi sl sh tl th) = true := by
  simp only [mulB, Bool.and_eq_true] at h
  obtain ⟨h1, h2⟩ := both_of h.1
  exact ⟨h1, h2, h.2⟩
theorem mulLo_swap (sl sh tl th : Int) : mulLo tl th sl sh = mulLo sl sh tl th := by
  unfold mulLo
  rw [Int.mul_comm tl, Int.mul_comm tl, Int.mul_comm th, Int.mul_comm th]
  omega
theorem mulHi_swap (sl sh tl th : Int) : mulHi tl th sl sh = mulHi sl sh tl th := by
  unfold mulHi
  rw [Int.mul_comm tl, Int.mul_comm tl, Int.mul_comm th, Int.mul_comm th]
  omega
theorem mul_swap (sl sh tl th : Int) : mulB tl th sl sh = mulB sl sh tl th := by
  unfold mulB
  rw [both_swap, mulLo_swap, mulHi_swap]
theorem mul_in {sl sh tl th x y : Int} (h1 : sl ≤ x) (h2 : x ≤ sh) (h3 : tl ≤ y) (h4 : y ≤ th) : mulLo sl sh tl th * 1000000000 ≤ x * y ∧ x * y ≤ mulHi sl sh tl th * 1000000000 := by
  have c := corner h1 h2 h3 h4
  rw [← le_down (by omega), ← up_le (by omega), ← mulLo_min, ← mulHi_max]
  exact ⟨down_mono (by omega) c.1, up_mono (by omega) c.2⟩
theorem mulLo_neg (sl sh tl th : Int) : mulLo (-sh) (-sl) tl th = -mulHi sl sh tl th := by
  unfold mulLo mulHi
  simp only [Int.neg_mul, down_neg]
  omega
theorem mulHi_neg (sl sh tl th : Int) : mulHi (-sh) (-sl) tl th = -mulLo sl sh tl th := by
  unfold mulLo mulHi
  simp only [Int.neg_mul, up_neg]
  omega
theorem mul_neg {sl sh tl th : Int} (h : mulB sl sh tl th = true) : mulB (-sh) (-sl) tl th = true := by
  obtain ⟨h1, h2, h3⟩ := mul_of h
  simp only [mulB, both_mk (neg_ok h1) h2, mulLo_neg, mulHi_neg, neg_ok h3, Bool.and_self]
theorem mulLo_one {l h : Int} (e : l ≤ h) : mulLo l h 1000000000 1000000000 = l := by
  unfold mulLo
  rw [down_whole (by omega), down_whole (by omega)]
  omega
theorem mulHi_one {l h : Int} (e : l ≤ h) : mulHi l h 1000000000 1000000000 = h := by
  unfold mulHi
  rw [up_whole (by omega), up_whole (by omega)]
  omega
theorem mul_one {l h : Int} (e : okS l h = true) : mulB l h 1000000000 1000000000 = true := by
  have k := okS_of e
  simp only [mulB, both_mk e (show okS 1000000000 1000000000 = true from rfl), mulLo_one k.2.1, mulHi_one k.2.1, e, Bool.and_self]
theorem mulLo_part {sl sh tl th x : Int} (h1 : sl ≤ x) (h2 : x ≤ sh) (h : tl ≤ th) : mulLo sl sh tl th ≤ mulLo x sh tl th := by
  have c1 := corner h1 h2 (Int.le_refl tl) h
  have c2 := corner h1 h2 h (Int.le_refl th)
  rw [← mulLo_min, ← mulLo_min]
  exact down_mono (by omega) (by omega)
theorem mulHi_part {sl sh tl th x : Int} (h1 : sl ≤ x) (h2 : x ≤ sh) (h : tl ≤ th) : mulHi x sh tl th ≤ mulHi sl sh tl th := by
  have c1 := corner h1 h2 (Int.le_refl tl) h
  have c2 := corner h1 h2 h (Int.le_refl th)
  rw [← mulHi_max, ← mulHi_max]
  exact up_mono (by omega) (by omega)
theorem mul_part {sl sh tl th x : Int} (h : mulB sl sh tl th = true) (h1 : sl ≤ x) (h2 : x ≤ sh) :
    mulB x sh tl th = true ∧ withinB (mulLo x sh tl th) (mulHi x sh tl th) (mulLo sl sh tl th) (mulHi sl sh tl th) = true := by
  obtain ⟨g1, g2, g3⟩ := mul_of h
  have k1 := okS_of g1
  have k2 := okS_of g2
  have k3 := okS_of g3
  have c1 := mulLo_part h1 h2 k2.2.1
  have c2 := mulHi_part h1 h2 k2.2.1
  have c3 := mul_le (sl := x) (sh := sh) (tl := tl) (th := th)
  have o : okS x sh = true := okS_mk (by omega)
  have p : okS (mulLo x sh tl th) (mulHi x sh tl th) = true := okS_mk (by omega)
  exact ⟨by simp only [mulB, both_mk o g2, p, Bool.and_self], within_mk p g3 c1 c2⟩
theorem add_part {sl sh tl th x : Int} (h : addB sl sh tl th = true) (h1 : sl ≤ x) (h2 : x ≤ sh) :
    addB x sh tl th = true ∧ withinB (x + tl) (sh + th) (sl + tl) (sh + th) = true := by
  obtain ⟨g1, g2, g3⟩ := add_of h
  have k1 := okS_of g1
  have k2 := okS_of g2
  have k3 := okS_of g3
  have o : okS x sh = true := okS_mk (by omega)
  have p : okS (x + tl) (sh + th) = true := okS_mk (by omega)
  exact ⟨add_mk o g2 p, within_mk p g3 (by omega) (by omega)⟩

/-! ### quotients of spans -/
theorem qd_pos {a b k : Int} (hb : 1 ≤ b) : k ≤ qd a b ↔ k * b ≤ 1000000000 * a := by
  unfold qd
  rw [if_neg (by omega)]
  exact le_down hb
theorem qd_neg {a b k : Int} (hb : b < 0) : k ≤ qd a b ↔ 1000000000 * a ≤ k * b := by
  unfold qd
  rw [if_pos hb, le_down (by omega), Int.mul_neg k]
  omega
theorem qu_pos {a b k : Int} (hb : 1 ≤ b) : qu a b ≤ k ↔ 1000000000 * a ≤ k * b := by
  unfold qu
  rw [if_neg (by omega)]
  exact up_le hb
theorem qu_neg {a b k : Int} (hb : b < 0) : qu a b ≤ k ↔ k * b ≤ 1000000000 * a := by
  unfold qu
  rw [if_pos hb, up_le (by omega), Int.mul_neg k]
  omega
theorem q_le {a b : Int} (hb : b < 0 ∨ 1 ≤ b) : qd a b ≤ qu a b := by
  unfold qd qu
  split
  · exact down_up (by omega)
  · exact down_up (by omega)
theorem qd_turn (a b : Int) : qd (-a) b = -qu a b := by
  unfold qd qu
  split
  · rw [← down_neg]; congr 1; omega
  · rw [← down_neg]; congr 1; omega
theorem qu_turn (a b : Int) : qu (-a) b = -qd a b := by
  unfold qd qu
  split
  · rw [← up_neg]; congr 1; omega
  · rw [← up_neg]; congr 1; omega
theorem q_bd {a b : Int} (h1 : -1073000000 ≤ a) (h2 : a ≤ 1073000000) (hb : b < 0 ∨ 1 ≤ b) : (-1152921504606846976 ≤ qd a b ∧ qd a b ≤ 1152921504606846976) ∧ -1152921504606846976 ≤ qu a b ∧ qu a b ≤ 1152921504606846976 := by
  unfold qd qu
  split
  · exact du_bd (by omega) (by omega) (by omega)
  · exact du_bd (by omega) (by omega) (by omega)
theorem apart_of {tl th : Int} (h : apartB tl th = true) : th < 0 ∨ 1 ≤ tl := by
  simp only [apartB, Bool.not_eq_true', Bool.and_eq_false_iff, decide_eq_false_iff_not] at h
  omega
theorem apart_no {tl th : Int} (h : apartB tl th = false) : tl ≤ 0 ∧ 0 ≤ th := by
  simpa [apartB] using h
theorem apart_mk {tl th : Int} (h : th < 0 ∨ 1 ≤ tl) : apartB tl th = true := by
  simp only [apartB, Bool.not_eq_true', Bool.and_eq_false_iff, decide_eq_false_iff_not]
  omega
theorem apart_no_mk {tl th : Int} (h : tl ≤ 0 ∧ 0 ≤ th) : apartB tl th = false := by
  simp [apartB, h]
theorem div_of {sl sh tl th : Int} (h : divB sl sh tl th = true) : okS sl sh = true ∧ okS tl th = true ∧ (th < 0 ∨ 1 ≤ tl) ∧ okS (divLo sl sh tl th) (divHi sl sh tl th) = true := by
  simp only [divB, Bool.and_eq_true] at h
  obtain ⟨h1, h2⟩ := both_of h.1
  exact ⟨h1, h2, apart_of h.2.1, h.2.2⟩
theorem div_mk {sl sh tl th : Int} (h : okS sl sh = true) (g : okS tl th = true) (e : apartB tl th = true) (k : okS (divLo sl sh tl th) (divHi sl sh tl th) = true) : divB sl sh tl th = true := by
  simp [divB, both_mk h g, e, k]
theorem div_le {sl sh tl th : Int} (h : th < 0 ∨ 1 ≤ tl) (k : tl ≤ th) : divLo sl sh tl th ≤ divHi sl sh tl th := by
  have := q_le (a := sl) (b := tl) (by omega)
  unfold divLo divHi
  omega
theorem div_pos {sl sh tl th m : Int} (h : 1 ≤ tl) (h1 : tl ≤ m) (h2 : m ≤ th) : divLo sl sh tl th * m ≤ 1000000000 * sl ∧ 1000000000 * sh ≤ divHi sl sh tl th * m := by
  have a1 := (qd_pos (a := sl) (b := tl) (k := divLo sl sh tl th) (by omega)).1 (by unfold divLo; omega)
  have a2 := (qd_pos (a := sl) (b := th) (k := divLo sl sh tl th) (by omega)).1 (by unfold divLo; omega)
  have b1 := (qu_pos (a := sh) (b := tl) (k := divHi sl sh tl th) (by omega)).1 (by unfold divHi; omega)
  have b2 := (qu_pos (a := sh) (b := th) (k := divHi sl sh tl th) (by omega)).1 (by unfold divHi; omega)
  have l1 := lin (divLo sl sh tl th) h1 h2
  have l2 := lin (divHi sl sh tl th) h1 h2
  rw [Int.mul_comm tl, Int.mul_comm th, Int.mul_comm m] at l1 l2
  omega
theorem div_neg {sl sh tl th m : Int} (h : th < 0) (h1 : tl ≤ m) (h2 : m ≤ th) : 1000000000 * sh ≤ divLo sl sh tl th * m ∧ divHi sl sh tl th * m ≤ 1000000000 * sl := by
  have a1 := (qd_neg (a := sh) (b := tl) (k := divLo sl sh tl th) (by omega)).1 (by unfold divLo; omega)
  have a2 := (qd_neg (a := sh) (b := th) (k := divLo sl sh tl th) (by omega)).1 (by unfold divLo; omega)
  have b1 := (qu_neg (a := sl) (b := tl) (k := divHi sl sh tl th) (by omega)).1 (by unfold divHi; omega)
  have b2 := (qu_neg (a := sl) (b := th) (k := divHi sl sh tl th) (by omega)).1 (by unfold divHi; omega)
  have l1 := lin (divLo sl sh tl th) h1 h2
  have l2 := lin (divHi sl sh tl th) h1 h2
  rw [Int.mul_comm tl, Int.mul_comm th, Int.mul_comm m] at l1 l2
  omega
theorem divLo_neg (sl sh tl th : Int) : divLo (-sh) (-sl) tl th = -divHi sl sh tl th := by
  unfold divLo divHi
  simp only [qd_turn]
  omega
theorem divHi_neg (sl sh tl th : Int) : divHi (-sh) (-sl) tl th = -divLo sl sh tl th := by
  unfold divLo divHi
  simp only [qu_turn]
  omega
theorem div_turn {sl sh tl th : Int} (h : divB sl sh tl th = true) : divB (-sh) (-sl) tl th = true := by
  obtain ⟨h1, h2, h3, h4⟩ := div_of h
  refine div_mk (neg_ok h1) h2 (apart_mk h3) ?_
  rw [divLo_neg, divHi_neg]
  exact neg_ok h4
theorem div_back {sl sh tl th : Int} (h : divB sl sh tl th = true) (g : mulB (divLo sl sh tl th) (divHi sl sh tl th) tl th = true) :
    withinB sl sh (mulLo (divLo sl sh tl th) (divHi sl sh tl th) tl th) (mulHi (divLo sl sh tl th) (divHi sl sh tl th) tl th) = true := by
  obtain ⟨h1, h2, h3, h4⟩ := div_of h
  obtain ⟨_, _, g3⟩ := mul_of g
  have k2 := okS_of h2
  have k4 := okS_of h4
  have m1 := mul_in (sl := divLo sl sh tl th) (sh := divHi sl sh tl th) (tl := tl) (th := th) (Int.le_refl _) k4.2.1 (Int.le_refl _) k2.2.1
  have m2 := mul_in (sl := divLo sl sh tl th) (sh := divHi sl sh tl th) (tl := tl) (th := th) k4.2.1 (Int.le_refl _) (Int.le_refl _) k2.2.1
  rcases h3 with h3 | h3
  · have d := div_neg (sl := sl) (sh := sh) h3 (Int.le_refl tl) k2.2.1
    exact within_mk h1 g3 (by omega) (by omega)
  · have d := div_pos (sl := sl) (sh := sh) h3 (Int.le_refl tl) k2.2.1
    exact within_mk h1 g3 (by omega) (by omega)

/-! ### roots of spans -/
def rtLo (a : Int) : Int := RM.root (1000000000 * a)
def rtHi (a : Int) : Int := if RM.root (1000000000 * a) * RM.root (1000000000 * a) < 1000000000 * a then RM.root (1000000000 * a) + 1 else RM.root (1000000000 * a)
def rootB (l h : Int) : Bool := okS l h && decide (0 ≤ l)
theorem root_of {l h : Int} (e : rootB l h = true) : okS l h = true ∧ 0 ≤ l := by simpa [rootB] using e
theorem root_mk {l h : Int} (e : okS l h = true) (k : 0 ≤ l) : rootB l h = true := by simp [rootB, e, k]
theorem rtLo_nn (a : Int) : 0 ≤ rtLo a := RM.root_nonneg _
theorem rtLo_sq {a : Int} (h : 0 ≤ a) : rtLo a * rtLo a ≤ 1000000000 * a ∧ 1000000000 * a < (rtLo a + 1) * (rtLo a + 1) := RM.root_sq (by omega)
theorem rtHi_or (a : Int) : rtHi a = rtLo a + 1 ∧ rtLo a * rtLo a < 1000000000 * a ∨ rtHi a = rtLo a ∧ 1000000000 * a ≤ rtLo a * rtLo a := by
  unfold rtHi rtLo
  split
  · exact .inl ⟨rfl, by assumption⟩
  · exact .inr ⟨rfl, by omega⟩
theorem rtHi_sq {a : Int} (h : 0 ≤ a) : 1000000000 * a ≤ rtHi a * rtHi a := by
  have k := rtLo_sq h
  rcases rtHi_or a with ⟨e, f⟩ | ⟨e, f⟩
  · rw [e]; omega
  · rw [e]; exact f
theorem rtLo_mono {a b : Int} (h : 0 ≤ a) (k : a ≤ b) : rtLo a ≤ rtLo b := by
  by_cases c : rtLo a ≤ rtLo b
  · exact c
  · have h1 := rtLo_sq h
    have h2 := rtLo_sq (show 0 ≤ b by omega)
    have n := rtLo_nn b
    have := RM.sq_le (x := rtLo b + 1) (y := rtLo a) (by omega) (by omega)
    omega
theorem rtHi_mono {a b : Int} (h : 0 ≤ a) (k : a ≤ b) : rtHi a ≤ rtHi b := by
  have m := rtLo_mono h k
  have h1 := rtLo_sq h
  have h2 := rtHi_sq (show 0 ≤ b by omega)
  have n := rtLo_nn a
  rcases rtHi_or a with ⟨e, f⟩ | ⟨e, f⟩
  · rcases rtHi_or b with ⟨e', f'⟩ | ⟨e', f'⟩
    · omega
    · by_cases c : rtLo a = rtLo b
      · rw [c] at f; omega
      · omega
  · have := rtHi_or b
    omega
theorem rt_small {a : Int} (h : 0 ≤ a) (k : a ≤ 1073000000) : rtLo a ≤ 1072999999 := by
  by_cases c : rtLo a ≤ 1072999999
  · exact c
  · have h1 := rtLo_sq h
    have := RM.sq_le (x := 1073000000) (y := rtLo a) (by omega) (by omega)
    omega
theorem rt_ok {l h : Int} (e : rootB l h = true) : okS (rtLo l) (rtHi h) = true := by
  obtain ⟨h1, h2⟩ := root_of e
  have k := okS_of h1
  have m := rtLo_mono h2 k.2.1
  have s := rt_small (a := h) (by omega) (by omega)
  have n := rtLo_nn l
  have o := rtHi_or h
  exact okS_mk (by omega)
theorem rt_back {l h : Int} (e : rootB l h = true) (g : mulB (rtLo l) (rtHi h) (rtLo l) (rtHi h) = true) :
    withinB l h (mulLo (rtLo l) (rtHi h) (rtLo l) (rtHi h)) (mulHi (rtLo l) (rtHi h) (rtLo l) (rtHi h)) = true := by
  obtain ⟨h1, h2⟩ := root_of e
  obtain ⟨_, _, g3⟩ := mul_of g
  have k := okS_of h1
  have k4 := okS_of (rt_ok e)
  have m1 := mul_in (sl := rtLo l) (sh := rtHi h) (tl := rtLo l) (th := rtHi h) (Int.le_refl _) k4.2.1 (Int.le_refl _) k4.2.1
  have m2 := mul_in (sl := rtLo l) (sh := rtHi h) (tl := rtLo l) (th := rtHi h) k4.2.1 (Int.le_refl _) k4.2.1 (Int.le_refl _)
  have s1 := rtLo_sq h2
  have s2 := rtHi_sq (show 0 ≤ h by omega)
  exact within_mk h1 g3 (by omega) (by omega)
theorem rt_part {l h n : Int} (e : rootB l h = true) (h1 : l ≤ n) (h2 : n ≤ h) : rootB n n = true ∧ withinB (rtLo n) (rtHi n) (rtLo l) (rtHi h) = true ∧ rtHi n - rtLo n ≤ 1 := by
  obtain ⟨g1, g2⟩ := root_of e
  have k := okS_of g1
  have r : rootB n n = true := root_mk (okS_mk (by omega)) (by omega)
  have a := rtLo_mono g2 h1
  have b := rtHi_mono (show 0 ≤ n by omega) h2
  have o := rtHi_or n
  exact ⟨r, within_mk (rt_ok r) (rt_ok e) a b, by omega⟩
/-! ### more of SpanOf -/
theorem ofLo_mono {a c b : Int} (hb : 1 ≤ b) (h : a ≤ c) : ofLo a b ≤ ofLo c b := down_mono hb (by omega)
theorem ofHi_mono {a c b : Int} (hb : 1 ≤ b) (h : a ≤ c) : ofHi a b ≤ ofHi c b := up_mono hb (by omega)
theorem ofLo_neg (a b : Int) : ofLo (-a) b = -ofHi a b := by unfold ofLo ofHi; rw [← down_neg]; congr 1; omega
theorem ofHi_neg (a b : Int) : ofHi (-a) b = -ofLo a b := by unfold ofLo ofHi; rw [← up_neg]; congr 1; omega
theorem of_neg {a b : Int} (h : ofB a b = true) : ofB (-a) b = true := by
  obtain ⟨h1, h2⟩ := of_ok h
  unfold ofB
  rw [rat_neg, h1, ofLo_neg, ofHi_neg, neg_ok h2]
  rfl
/-! ### a number within a span -/
def pickV (l h n : Int) : Int := l + n.tmod (h - l + 1)
theorem pick_in {l h n : Int} (e : okS l h = true) (hn : 0 ≤ n) : l ≤ pickV l h n ∧ pickV l h n ≤ h := by
  have k := okS_of e
  unfold pickV
  rw [Int.tmod_eq_emod_of_nonneg hn]
  have := Int.emod_nonneg n (show h - l + 1 ≠ 0 by omega)
  have := Int.emod_lt_of_pos n (show 0 < h - l + 1 by omega)
  omega

end SM
end Go.Proofs.Ytlkompbigpbefab
