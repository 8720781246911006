/-
  Plain facts on angles: whole turns, parts, texts. No Go text in sight.
-/
import Derived.Test.YtfdkpcejjcifgauDoorNumMath
import Derived.Test.YtfdkpcejjcifgauDoorNumLaws
namespace Go.Proofs.YtfdkpcejjcifgauDoor
namespace AM

/-- A number, or 0 where there is none. -/
def sel (c : Bool) (x : Int) : Int := match c with | true => x | false => 0
theorem sel_t (x : Int) : sel true x = x := rfl
theorem sel_f (x : Int) : sel false x = 0 := rfl

/-! ### whole turns -/
def okA (a : Int) : Bool := decide (-1000000000000 ≤ a ∧ a ≤ 1000000000000)
theorem okA_of {a : Int} (h : okA a = true) : -1000000000000 ≤ a ∧ a ≤ 1000000000000 := of_decide_eq_true h
theorem okA_mk {a : Int} (h1 : -1000000000000 ≤ a) (h2 : a ≤ 1000000000000) : okA a = true := decide_eq_true ⟨h1, h2⟩
theorem okA_no {a : Int} (h : ¬ (-1000000000000 ≤ a ∧ a ≤ 1000000000000)) : okA a = false := decide_eq_false h
def norm (a : Int) : Int := a % 129600000
def diff (a b : Int) : Int := if 64800000 < (b - a) % 129600000 then (b - a) % 129600000 - 129600000 else (b - a) % 129600000
theorem norm_in (a : Int) : 0 ≤ norm a ∧ norm a < 129600000 := by unfold norm; omega
theorem norm_ok (a : Int) : okA (norm a) = true := by have := norm_in a; exact okA_mk (by omega) (by omega)
theorem tmod_turn {x k : Int} (h : x = 129600000 * k) : x.tmod 129600000 = 0 := by
  subst h
  exact Int.mul_tmod_right _ _
theorem norm_turn (a : Int) : (a - norm a).tmod 129600000 = 0 := tmod_turn (k := a / 129600000) (by unfold norm; omega)
theorem norm_more (a k : Int) : norm (a + k * 129600000) = norm a := by unfold norm; omega
theorem norm_norm (a : Int) : norm (norm a) = norm a := by unfold norm; omega
theorem norm_down (a : Int) : a - NM.down a 129600000 * 129600000 = norm a := by unfold NM.down norm; omega
theorem diff_in (a b : Int) : -64800000 < diff a b ∧ diff a b ≤ 64800000 := by unfold diff; split <;> omega
theorem diff_turn (a b : Int) : (b - a - diff a b).tmod 129600000 = 0 := by
  unfold diff
  split
  · exact tmod_turn (k := (b - a) / 129600000 + 1) (by omega)
  · exact tmod_turn (k := (b - a) / 129600000) (by omega)
theorem diff_self (a : Int) : diff a a = 0 := by unfold diff; simp
theorem diff_back (a b : Int) : diff b a = -diff a b ∨ diff a b = 64800000 ∧ diff b a = diff a b := by unfold diff; split <;> split <;> omega
theorem diff_three (a b c : Int) : (diff a b + diff b c - diff a c).tmod 129600000 = 0 := by
  obtain ⟨k, hk⟩ : ∃ k, diff a b = b - a + 129600000 * k := by
    unfold diff
    split
    · exact ⟨-((b - a) / 129600000) - 1, by omega⟩
    · exact ⟨-((b - a) / 129600000), by omega⟩
  obtain ⟨l, hl⟩ : ∃ k, diff b c = c - b + 129600000 * k := by
    unfold diff
    split
    · exact ⟨-((c - b) / 129600000) - 1, by omega⟩
    · exact ⟨-((c - b) / 129600000), by omega⟩
  obtain ⟨m, hm⟩ : ∃ k, diff a c = c - a + 129600000 * k := by
    unfold diff
    split
    · exact ⟨-((c - a) / 129600000) - 1, by omega⟩
    · exact ⟨-((c - a) / 129600000), by omega⟩
  exact tmod_turn (k := k + l - m) (by rw [hk, hl, hm]; omega)
def normV (a : Int) : Int := sel (okA a) (norm a)
def diffB (a b : Int) : Bool := okA a && okA b
def diffV (a b : Int) : Int := sel (diffB a b) (diff a b)

/-! ### parts -/
def inT (a : Int) : Bool := decide (-129600000 ≤ a ∧ a ≤ 129600000)
theorem inT_of {a : Int} (h : inT a = true) : -129600000 ≤ a ∧ a ≤ 129600000 := of_decide_eq_true h
theorem inT_mk {a : Int} (h1 : -129600000 ≤ a) (h2 : a ≤ 129600000) : inT a = true := decide_eq_true ⟨h1, h2⟩
theorem inT_no {a : Int} (h : ¬ (-129600000 ≤ a ∧ a ≤ 129600000)) : inT a = false := decide_eq_false h
def ab (a : Int) : Int := if a < 0 then -a else a
theorem ab_lt {a : Int} (h : a < 0) : ab a = -a := by simp [ab, h]
theorem ab_ge {a : Int} (h : ¬ a < 0) : ab a = a := by simp [ab, h]
def deg (a : Int) : Int := ab a / 360000
def mi (a : Int) : Int := ab a % 360000 / 6000
def se (a : Int) : Int := ab a % 6000 / 100
def hu (a : Int) : Int := ab a % 100
def whole (d m s h : Int) : Int := d * 360000 + m * 6000 + s * 100 + h
def rangeB (d m s h : Int) : Bool := NM.inB d 0 360 && (NM.inB m 0 59 && (NM.inB s 0 59 && NM.inB h 0 99))
theorem range_of {d m s h : Int} (e : rangeB d m s h = true) : (0 ≤ d ∧ d ≤ 360) ∧ (0 ≤ m ∧ m ≤ 59) ∧ (0 ≤ s ∧ s ≤ 59) ∧ 0 ≤ h ∧ h ≤ 99 := by
  simpa [rangeB, NM.inB] using e
theorem range_mk {d m s h : Int} (e : (0 ≤ d ∧ d ≤ 360) ∧ (0 ≤ m ∧ m ≤ 59) ∧ (0 ≤ s ∧ s ≤ 59) ∧ 0 ≤ h ∧ h ≤ 99) : rangeB d m s h = true := by
  simpa [rangeB, NM.inB] using e
def ofB (l : Bool) (d m s h : Int) : Bool := rangeB d m s h && (decide (whole d m s h ≤ 129600000) && !(l && decide (whole d m s h = 0)))
def ofW (l : Bool) (d m s h : Int) : Int := match l with | true => -whole d m s h | false => whole d m s h
def ofV (l : Bool) (d m s h : Int) : Int := sel (ofB l d m s h) (ofW l d m s h)
theorem of_no {l : Bool} {d m s h : Int} (e : ofB l d m s h = false) : ofV l d m s h = 0 := by unfold ofV; rw [e]; rfl
theorem of_yes {l : Bool} {d m s h : Int} (e : ofB l d m s h = true) : ofV l d m s h = ofW l d m s h := by unfold ofV; rw [e]; rfl
theorem ab_bd {a : Int} (h : inT a = true) : 0 ≤ ab a ∧ ab a ≤ 129600000 := by
  have := inT_of h
  unfold ab
  split <;> omega
theorem parts_in {a : Int} (h : inT a = true) : (0 ≤ deg a ∧ deg a ≤ 360) ∧ (0 ≤ mi a ∧ mi a ≤ 59) ∧ (0 ≤ se a ∧ se a ≤ 59) ∧ 0 ≤ hu a ∧ hu a ≤ 99 := by
  have := ab_bd h
  unfold deg mi se hu
  omega
theorem whole_parts {a : Int} (h : inT a = true) : whole (deg a) (mi a) (se a) (hu a) = ab a := by
  have := ab_bd h
  unfold whole deg mi se hu
  omega
/-- AngOf of AngParts is the angle. -/
theorem of_parts {a : Int} (h : inT a = true) : ofB (decide (a < 0)) (deg a) (mi a) (se a) (hu a) = true ∧ ofV (decide (a < 0)) (deg a) (mi a) (se a) (hu a) = a := by
  have w := whole_parts h
  have b := ab_bd h
  have k : ofB (decide (a < 0)) (deg a) (mi a) (se a) (hu a) = true := by
    unfold ofB
    rw [range_mk (parts_in h), w]
    by_cases n : a < 0
    · have := ab_lt n
      simp [n]
      omega
    · simp [n]
      omega
  refine ⟨k, ?_⟩
  rw [of_yes k]
  by_cases n : a < 0
  · have := ab_lt n
    simp only [n, decide_true, ofW]
    omega
  · have := ab_ge n
    simp only [n, decide_false, ofW]
    omega
theorem ofB_of {l : Bool} {d m s h : Int} (e : ofB l d m s h = true) : rangeB d m s h = true ∧ whole d m s h ≤ 129600000 ∧ ¬ (l = true ∧ whole d m s h = 0) := by
  cases l <;> simpa [ofB] using e
/-- AngParts of AngOf are the parts. -/
theorem parts_of {l : Bool} {d m s h : Int} (e : ofB l d m s h = true) : inT (ofV l d m s h) = true ∧ decide (ofV l d m s h < 0) = l ∧ deg (ofV l d m s h) = d ∧ mi (ofV l d m s h) = m ∧ se (ofV l d m s h) = s ∧ hu (ofV l d m s h) = h := by
  obtain ⟨r, w, z⟩ := ofB_of e
  obtain ⟨⟨d0, d1⟩, ⟨m0, m1⟩, ⟨s0, s1⟩, h0, h1⟩ := range_of r
  rw [of_yes e]
  have key : ∀ a, ab a = whole d m s h → deg a = d ∧ mi a = m ∧ se a = s ∧ hu a = h := fun a ha => by
    unfold deg mi se hu
    rw [ha]
    unfold whole
    omega
  have nn : 0 ≤ whole d m s h := by unfold whole; omega
  cases l
  · have e1 : ofW false d m s h = whole d m s h := rfl
    rw [e1]
    exact ⟨inT_mk (by omega) (by omega), decide_eq_false (by omega), key _ (ab_ge (by omega))⟩
  · have e1 : ofW true d m s h = -whole d m s h := rfl
    have z : ¬ whole d m s h = 0 := fun c => z ⟨rfl, c⟩
    rw [e1]
    exact ⟨inT_mk (by omega) (by omega), decide_eq_true (by omega), key _ (by rw [ab_lt (by omega)]; omega)⟩

end AM
end Go.Proofs.YtfdkpcejjcifgauDoor
