/-
  Plain facts on what is sure of a span: rounded, compared, its sign.
-/
import Derived.Test.YtlkompbigpbefabNumMath
import Derived.Test.YtlkompbigpbefabNumLaws
import Derived.Test.YtlkompbigpbefabSpanMath
namespace Go.Proofs.Ytlkompbigpbefab
namespace SR
open NM SM

/-! ### rounded -/
def mayB (l h p y : Int) : Bool := okS l h && (inB p 1 1000000000 && wayB y)
def sureB (l h p y : Int) : Bool := mayB l h p y && decide (rnd l p y = rnd h p y)
def sureV (l h p y : Int) : Int := sel (sureB l h p y) (rnd l p y)
theorem may_of {l h p y : Int} (e : mayB l h p y = true) : okS l h = true ∧ inB p 1 1000000000 = true ∧ wayB y = true := by
  simpa [mayB] using e
theorem may_mk {l h p y : Int} (e1 : okS l h = true) (e2 : inB p 1 1000000000 = true) (e3 : wayB y = true) : mayB l h p y = true := by simp [mayB, e1, e2, e3]
theorem may_no1 {l h p y : Int} (e : okS l h = false) : mayB l h p y = false := by simp [mayB, e]
theorem may_no2 {l h p y : Int} (e : inB p 1 1000000000 = false) : mayB l h p y = false := by simp [mayB, e]
theorem may_no3 {l h p y : Int} (e : wayB y = false) : mayB l h p y = false := by simp [mayB, e]
theorem in_of {n lo hi : Int} (e : inB n lo hi = true) : lo ≤ n ∧ n ≤ hi := of_decide_eq_true e
theorem in_mk {n lo hi : Int} (e1 : lo ≤ n) (e2 : n ≤ hi) : inB n lo hi = true := decide_eq_true ⟨e1, e2⟩
theorem in_no1 {n lo hi : Int} (e : n < lo) : inB n lo hi = false := decide_eq_false (by omega)
theorem in_no2 {n lo hi : Int} (e : hi < n) : inB n lo hi = false := decide_eq_false (by omega)
theorem sure_no {l h p y : Int} (e : mayB l h p y = false) : sureB l h p y = false := by simp [sureB, e]
theorem sure_ne {l h p y : Int} (e : ¬ rnd l p y = rnd h p y) : sureB l h p y = false := by simp [sureB, e]
theorem sure_mk {l h p y : Int} (e : mayB l h p y = true) (k : rnd l p y = rnd h p y) : sureB l h p y = true := by simp [sureB, e, k]
theorem sure_of {l h p y : Int} (e : sureB l h p y = true) : mayB l h p y = true ∧ rnd l p y = rnd h p y := by simpa [sureB] using e
theorem sureV_no {l h p y : Int} (e : sureB l h p y = false) : sureV l h p y = 0 := by unfold sureV; rw [e]; rfl
theorem sureV_of {l h p y : Int} (e : sureB l h p y = true) : sureV l h p y = rnd l p y := by unfold sureV; rw [e]; rfl
/-- A number of a span may be divided by parts. -/
theorem ok_in {l h p x : Int} (e : okS l h = true) (k : inB p 1 1000000000 = true) (h1 : l ≤ x) (h2 : x ≤ h) : okB x p = true := by
  have := okS_of e
  have := in_of k
  exact ok_mk (by omega)
theorem round_in {l h p y x : Int} (e : mayB l h p y = true) (h1 : l ≤ x) (h2 : x ≤ h) : roundB x p y = true ∧ roundV x p y = rnd x p y := by
  obtain ⟨e1, e2, e3⟩ := may_of e
  have k := roundB_of (ok_in e1 e2 h1 h2) e3
  exact ⟨k, roundV_of k⟩
/-- SURE: what is told is what each number of the span is rounded to. -/
theorem sure_all {l h p y x : Int} (e : sureB l h p y = true) (h1 : l ≤ x) (h2 : x ≤ h) : roundB x p y = true ∧ roundV x p y = sureV l h p y := by
  obtain ⟨e1, e2⟩ := sure_of e
  have k := okS_of (may_of e1).1
  obtain ⟨a1, a2⟩ := round_in e1 (Int.le_refl l) k.2.1
  obtain ⟨b1, b2⟩ := round_in e1 k.2.1 (Int.le_refl h)
  obtain ⟨c1, c2⟩ := round_in e1 h1 h2
  have m1 := more h1 a1 c1
  have m2 := more h2 c1 b1
  refine ⟨c1, ?_⟩
  rw [sureV_of e]
  omega
/-- What is not told could be two numbers. -/
theorem sure_two {l h p y : Int} (e : sureB l h p y = false) (k : okS l h = true) (a1 : roundB l p y = true) (b1 : roundB h p y = true) (g : roundV l p y = roundV h p y) : 1000000000 < p := by
  by_cases c : 1000000000 < p
  · exact c
  · obtain ⟨o, w⟩ := ok_round a1
    have := ok_of o
    have m := may_mk k (in_mk (n := p) (lo := 1) (hi := 1000000000) (by omega) (by omega)) w
    rw [roundV_of a1, roundV_of b1] at g
    rw [sure_mk m g] at e
    cases e

/-! ### compared -/
def lessV (sl sh tl th : Int) : Int := if bothB sl sh tl th = false then 3 else if sh < tl then 1 else if th ≤ sl then 2 else 3
theorem less_no {sl sh tl th : Int} (e : bothB sl sh tl th = false) : lessV sl sh tl th = 3 := by simp [lessV, e]
theorem less_yes {sl sh tl th : Int} (e : bothB sl sh tl th = true) (k : sh < tl) : lessV sl sh tl th = 1 := by simp [lessV, e, k]
theorem less_not {sl sh tl th : Int} (e : bothB sl sh tl th = true) (k1 : ¬ sh < tl) (k2 : th ≤ sl) : lessV sl sh tl th = 2 := by simp [lessV, e, k1, k2]
theorem less_else {sl sh tl th : Int} (k1 : ¬ sh < tl) (k2 : ¬ th ≤ sl) : lessV sl sh tl th = 3 := by
  unfold lessV
  simp [k1, k2]
theorem less_cases {sl sh tl th : Int} (e : bothB sl sh tl th = true) : lessV sl sh tl th = 1 ∧ sh < tl ∨ lessV sl sh tl th = 2 ∧ th ≤ sl ∨ lessV sl sh tl th = 3 := by
  by_cases k1 : sh < tl
  · exact .inl ⟨less_yes e k1, k1⟩
  · by_cases k2 : th ≤ sl
    · exact .inr (.inl ⟨less_not e k1 k2, k2⟩)
    · exact .inr (.inr (less_else k1 k2))

/-! ### its sign -/
def cmpV (x : Int) : Int := if x < 0 then -1 else if 0 < x then 1 else 0
theorem cmp_lt {x : Int} (h : x < 0) : cmpV x = -1 := by simp [cmpV, h]
theorem cmp_gt {x : Int} (h : 0 < x) : cmpV x = 1 := by
  have : ¬ x < 0 := by omega
  simp [cmpV, h, this]
theorem cmp_0 : cmpV 0 = 0 := rfl
theorem cmp_bd (x : Int) : -1 ≤ cmpV x ∧ cmpV x ≤ 1 := by
  unfold cmpV
  split
  · omega
  · split <;> omega
def signB (l h : Int) : Bool := okS l h && decide (cmpV l = cmpV h)
def signV (l h : Int) : Int := sel (signB l h) (cmpV l)
theorem sign_no {l h : Int} (e : okS l h = false) : signB l h = false := by simp [signB, e]
theorem sign_ne {l h : Int} (e : ¬ cmpV l = cmpV h) : signB l h = false := by simp [signB, e]
theorem sign_mk {l h : Int} (e : okS l h = true) (k : cmpV l = cmpV h) : signB l h = true := by simp [signB, e, k]
theorem sign_of {l h : Int} (e : signB l h = true) : okS l h = true ∧ cmpV l = cmpV h := by simpa [signB] using e
theorem signV_no {l h : Int} (e : signB l h = false) : signV l h = 0 := by unfold signV; rw [e]; rfl
theorem signV_of {l h : Int} (e : signB l h = true) : signV l h = cmpV l := by unfold signV; rw [e]; rfl
theorem sign_above {l h : Int} (e : okS l h = true) (k : 0 < l) : signB l h = true ∧ signV l h = 1 := by
  have o := okS_of e
  have s := sign_mk e (by rw [cmp_gt k, cmp_gt (show 0 < h by omega)])
  exact ⟨s, by rw [signV_of s, cmp_gt k]⟩
theorem sign_below {l h : Int} (e : okS l h = true) (k : h < 0) : signB l h = true ∧ signV l h = -1 := by
  have o := okS_of e
  have s := sign_mk e (by rw [cmp_lt k, cmp_lt (show l < 0 by omega)])
  exact ⟨s, by rw [signV_of s, cmp_lt (show l < 0 by omega)]⟩
theorem sign_0 : signB 0 0 = true ∧ signV 0 0 = 0 := ⟨rfl, rfl⟩
theorem sign_mixed {l h : Int} (e : okS l h = true) (k1 : l ≤ 0) (k2 : 0 ≤ h) (k3 : ¬ (l = 0 ∧ h = 0)) : signB l h = false := by
  refine sign_ne fun c => ?_
  rcases (show l < 0 ∨ l = 0 by omega) with a | rfl
  · rw [cmp_lt a] at c
    rcases (show h = 0 ∨ 0 < h by omega) with rfl | b
    · rw [cmp_0] at c; omega
    · rw [cmp_gt b] at c; omega
  · rw [cmp_0, cmp_gt (show 0 < h by omega)] at c
    omega
/-- What is surely above 0 is, and turned about below. -/
theorem sign_cases {l h x : Int} (e : signB l h = true) (h1 : l ≤ x) (h2 : x ≤ h) :
    (signV l h = 1 ∧ 0 < x ∧ signB (-h) (-l) = true ∧ signV (-h) (-l) = -1) ∨ (signV l h = -1 ∧ x < 0 ∧ signB (-h) (-l) = true ∧ signV (-h) (-l) = 1) ∨ (signV l h = 0 ∧ x = 0 ∧ signB (-h) (-l) = true ∧ signV (-h) (-l) = 0) := by
  obtain ⟨o, c⟩ := sign_of e
  have k := okS_of o
  rcases (show 0 < l ∨ h < 0 ∨ (l ≤ 0 ∧ 0 ≤ h) by omega) with a | a | a
  · have n := sign_below (neg_ok o) (show -l < 0 by omega)
    exact .inl ⟨(sign_above o a).2, by omega, n.1, n.2⟩
  · have n := sign_above (neg_ok o) (show 0 < -h by omega)
    exact .inr (.inl ⟨(sign_below o a).2, by omega, n.1, n.2⟩)
  · by_cases z : l = 0 ∧ h = 0
    · obtain ⟨rfl, rfl⟩ := z
      exact .inr (.inr ⟨rfl, by omega, rfl, rfl⟩)
    · rw [sign_mixed o a.1 a.2 z] at e
      cases e

end SR
end Go.Proofs.Ytlkompbigpbefab
