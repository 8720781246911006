/-
  What is reckoned: trees as forests (a node's Kids, then what stands beside it), their size, their spans, their exact numbers. No Go text in sight.
-/
import Derived.Test.YtlkompbigpbefabSpanMath
import Derived.Test.YtlkompbigpbefabSineBook
import Derived.Test.YtlkompbigpbefabRootMath
namespace Go.Proofs.Ytlkompbigpbefab
namespace EM
set_option linter.unusedVariables false
open SM NM
/-- Some nodes beside each other, each with its Kids. -/
inductive F where
  | nil : F
  | cons (k a b : Int) (kids rest : F) : F
def F.len : F → Nat
  | .nil => 0
  | .cons _ _ _ _ r => r.len + 1
/-- How many nodes there are in all. -/
def F.cnt : F → Int
  | .nil => 0
  | .cons _ _ _ s r => 1 + s.cnt + r.cnt
theorem F.cnt_nn : ∀ f : F, 0 ≤ f.cnt
  | .nil => by simp [F.cnt]
  | .cons _ _ _ s r => by have := s.cnt_nn; have := r.cnt_nn; simp only [F.cnt]; omega
/-- How many Kids a kind has; -1, if it is none. -/
def kidsN (k : Int) : Int := if k < 1 ∨ 8 < k then -1 else if k = 1 ∨ k = 4 then 0 else if k ≤ 3 then 1 else 2
theorem kidsN_no {k : Int} (h : k < 1 ∨ 8 < k) : kidsN k = -1 := if_pos h
theorem kidsN_le (k : Int) : -1 ≤ kidsN k ∧ kidsN k ≤ 2 := by unfold kidsN; split; omega; split; omega; split <;> omega
/-- Is a node in form? -/
def formB (k a b : Int) (n : Nat) : Bool := decide ((n : Int) = kidsN k) && (decide (k = 1 ∧ (-1000 ≤ a ∧ a ≤ 1000) ∧ 1 ≤ b ∧ b ≤ 1000) || (decide (k = 4 ∧ (-129600000 ≤ a ∧ a ≤ 129600000) ∧ b = 0) || decide (0 < kidsN k ∧ a = 0 ∧ b = 0)))
def F.okF : F → Bool
  | .nil => true
  | .cons k a b s r => formB k a b s.len && (s.okF && r.okF)
/-- What tells how large something is, at most so much. -/
def szV (ok : Bool) (c most : Int) : Int := if ok = true ∧ c ≤ most then c else most + 1
theorem szV_yes {c most : Int} (h : c ≤ most) : szV true c most = c := by simp [szV, h]
theorem szV_no1 {c most : Int} : szV false c most = most + 1 := by simp [szV]
theorem szV_no2 {ok : Bool} {c most : Int} (h : most < c) : szV ok c most = most + 1 := by unfold szV; rw [if_neg]; omega
theorem szV_le {ok : Bool} {c most : Int} : szV ok c most ≤ most + 1 := by unfold szV; split <;> omega
theorem szV_fits {ok : Bool} {c most : Int} : decide (szV ok c most ≤ most) = (ok && decide (c ≤ most)) := by
  unfold szV
  cases ok
  · simp; omega
  · by_cases h : c ≤ most
    · simp [h]
    · simp [h]; omega
theorem form_kinds {k a b : Int} {n : Nat} (h : formB k a b n = true) :
    (k = 1 ∧ n = 0 ∧ (-1000 ≤ a ∧ a ≤ 1000) ∧ 1 ≤ b ∧ b ≤ 1000) ∨ (k = 4 ∧ n = 0 ∧ (-129600000 ≤ a ∧ a ≤ 129600000) ∧ b = 0) ∨ ((k = 2 ∨ k = 3) ∧ n = 1 ∧ a = 0 ∧ b = 0) ∨ ((k = 5 ∨ k = 6 ∨ k = 7 ∨ k = 8) ∧ n = 2 ∧ a = 0 ∧ b = 0) := by
  unfold formB at h
  simp only [Bool.and_eq_true, Bool.or_eq_true, decide_eq_true_eq] at h
  obtain ⟨hn, h⟩ := h
  unfold kidsN at hn h
  split at hn
  · omega
  · split at hn
    · rename_i e; simp only [e, if_true] at h; omega
    · split at hn <;> omega
/-- Something is in form, and not too large. -/
def okB (k a b : Int) (s : F) : Bool := formB k a b s.len && (s.okF && decide (1 + s.cnt ≤ 15))

/-! ### the span -/
abbrev P := Option (Int × Int)
def opt (c : Bool) (l h : Int) : P := if c then some (l, h) else none
theorem opt_of {c : Bool} {l h : Int} {x y : Int} (e : opt c l h = some (x, y)) : c = true ∧ x = l ∧ y = h := by
  unfold opt at e
  split at e
  · cases e; exact ⟨by assumption, rfl, rfl⟩
  · cases e
def leafS (k a b : Int) : P := if k = 1 then opt (ofB a b) (ofLo a b) (ofHi a b) else some (SI.siL (2 * a), SI.siH (2 * a))
def unS (k : Int) (s : Int × Int) : P := if k = 2 then some (-s.2, -s.1) else opt (rootB s.1 s.2) (rtLo s.1) (rtHi s.2)
def binS (k : Int) (s t : Int × Int) : P :=
  if k = 5 then opt (addB s.1 s.2 t.1 t.2) (s.1 + t.1) (s.2 + t.2)
  else if k = 6 then opt (addB s.1 s.2 (-t.2) (-t.1)) (s.1 + -t.2) (s.2 + -t.1)
  else if k = 7 then opt (mulB s.1 s.2 t.1 t.2) (mulLo s.1 s.2 t.1 t.2) (mulHi s.1 s.2 t.1 t.2)
  else opt (divB s.1 s.2 t.1 t.2) (divLo s.1 s.2 t.1 t.2) (divHi s.1 s.2 t.1 t.2)
def nodeS (k a b : Int) : List P → P
  | [] => leafS k a b
  | [x] => x.bind (unS k)
  | x :: y :: _ => x.bind fun s => y.bind fun t => binS k s t
def F.evS : F → List P
  | .nil => []
  | .cons k a b s r => nodeS k a b s.evS :: r.evS
theorem F.evS_len : ∀ f : F, f.evS.length = f.len
  | .nil => rfl
  | .cons _ _ _ _ r => by simp only [F.evS, F.len, List.length_cons, r.evS_len]
def okP (p : P) : Prop := ∀ l h, p = some (l, h) → okS l h = true
theorem okP_opt {c : Bool} {l h : Int} (g : c = true → okS l h = true) : okP (opt c l h) := fun x y e => by
  obtain ⟨e1, rfl, rfl⟩ := opt_of e
  exact g e1
theorem leafS_ok (k a b : Int) : okP (leafS k a b) := by
  unfold leafS
  split
  · exact okP_opt fun h => (of_ok h).2
  · intro l h e
    cases e
    exact SI.okSi _
theorem unS_ok {k : Int} {s : Int × Int} (h : okS s.1 s.2 = true) : okP (unS k s) := by
  unfold unS
  split
  · intro l h' e
    cases e
    exact neg_ok h
  · exact okP_opt fun e => rt_ok e
theorem binS_ok {k : Int} {s t : Int × Int} : okP (binS k s t) := by
  unfold binS
  split
  · exact okP_opt fun e => (add_of e).2.2
  · split
    · exact okP_opt fun e => (add_of e).2.2
    · split
      · exact okP_opt fun e => (mul_of e).2.2
      · exact okP_opt fun e => (div_of e).2.2.2
theorem okP_bind {p : P} {f : Int × Int → P} (h : okP p) (g : ∀ s, okS s.1 s.2 = true → okP (f s)) : okP (p.bind f) := by
  cases p with
  | none => intro l h e; cases e
  | some s => exact g s (h s.1 s.2 rfl)
theorem nodeS_ok {k a b : Int} {l : List P} (h : ∀ p ∈ l, okP p) : okP (nodeS k a b l) := by
  match l with
  | [] => exact leafS_ok k a b
  | [x] => exact okP_bind (h x (by simp)) fun s e => unS_ok e
  | x :: y :: _ => exact okP_bind (h x (by simp)) fun s _ => okP_bind (h y (by simp)) fun t _ => binS_ok
theorem F.evS_ok : ∀ (f : F) (p : P), p ∈ f.evS → okP p
  | .nil, p, h => by cases h
  | .cons k a b s r, p, h => by
    rcases List.mem_cons.1 h with rfl | h
    · exact nodeS_ok s.evS_ok
    · exact r.evS_ok p h

/-! ### the exact number -/
def leastV (a b : Int) : P :=
  if b = 0 then none else
    let c := if b < 0 then -a else a
    let d := if b < 0 then -b else b
    let g : Int := (Int.gcd c d : Int)
    opt (decide ((-1000000000 ≤ c / g ∧ c / g ≤ 1000000000) ∧ d / g ≤ 1000000000)) (c / g) (d / g)
def twoR (k : Int) (s t : Int × Int) : P :=
  if k = 7 then leastV (s.1 * t.1) (s.2 * t.2)
  else if k = 8 then leastV (s.1 * t.2) (s.2 * t.1)
  else
    let c := if k = 6 then -t.1 else t.1
    if (-576460752303423488 ≤ s.1 * t.2 ∧ s.1 * t.2 ≤ 576460752303423488) ∧ -576460752303423488 ≤ c * s.2 ∧ c * s.2 ≤ 576460752303423488 then leastV (s.1 * t.2 + c * s.2) (s.2 * t.2) else none
def nodeR (k a b : Int) (l : List P) : P :=
  if k = 1 then leastV a b else if k = 3 ∨ k = 4 then none else
    match l with
    | [] => none
    | [x] => x.bind fun s => some (-s.1, s.2)
    | x :: y :: _ => x.bind fun s => if k = 2 then some (-s.1, s.2) else y.bind fun t => twoR k s t
def F.evR : F → List P
  | .nil => []
  | .cons k a b s r => nodeR k a b s.evR :: r.evR
/-- What is told exactly: small enough, in the smallest numbers. -/
structure Rt (p q : Int) : Prop where
  a : -1000000000 ≤ p
  b : p ≤ 1000000000
  c : 1 ≤ q
  d : q ≤ 1000000000
  g : Int.gcd p q = 1
theorem least_of {a b p q : Int} (h : leastV a b = some (p, q)) : Rt p q ∧ ∃ g : Int, 1 ≤ g ∧ ((0 < b ∧ a = p * g ∧ b = q * g) ∨ (b < 0 ∧ -a = p * g ∧ -b = q * g)) := by
  unfold leastV at h
  split at h
  · cases h
  · rename_i hb
    obtain ⟨h1, rfl, rfl⟩ := opt_of h
    simp only [decide_eq_true_eq] at h1
    obtain ⟨⟨h2, h3⟩, h4⟩ := h1
    have key : ∀ c d : Int, 0 < d → Int.gcd (c / (Int.gcd c d : Int)) (d / (Int.gcd c d : Int)) = 1 ∧ 1 ≤ d / (Int.gcd c d : Int) ∧ (1 : Int) ≤ (Int.gcd c d : Int) ∧ c = c / (Int.gcd c d : Int) * (Int.gcd c d : Int) ∧ d = d / (Int.gcd c d : Int) * (Int.gcd c d : Int) := by
      intro c d hd
      have gp : 0 < Int.gcd c d := Int.gcd_pos_of_ne_zero_right _ (by omega)
      have g0 : (1 : Int) ≤ (Int.gcd c d : Int) := by omega
      have e1 : c = c / (Int.gcd c d : Int) * (Int.gcd c d : Int) := (Int.ediv_mul_cancel (Int.gcd_dvd_left ..)).symm
      have e2 : d = d / (Int.gcd c d : Int) * (Int.gcd c d : Int) := (Int.ediv_mul_cancel (Int.gcd_dvd_right ..)).symm
      refine ⟨Int.gcd_ediv_gcd_ediv_gcd gp, ?_, g0, e1, e2⟩
      rcases Int.lt_or_le (d / (Int.gcd c d : Int)) 1 with n | n
      · have := Int.mul_nonpos_of_nonpos_of_nonneg (show d / (Int.gcd c d : Int) ≤ 0 by omega) (show (0 : Int) ≤ (Int.gcd c d : Int) by omega)
        omega
      · exact n
    by_cases n : b < 0
    · simp only [if_pos n] at h2 h3 h4 ⊢
      obtain ⟨k1, k2, k3, k4, k5⟩ := key (-a) (-b) (by omega)
      exact ⟨⟨h2, h3, k2, h4, k1⟩, _, k3, .inr ⟨n, k4, k5⟩⟩
    · simp only [if_neg n] at h2 h3 h4 ⊢
      obtain ⟨k1, k2, k3, k4, k5⟩ := key a b (by omega)
      exact ⟨⟨h2, h3, k2, h4, k1⟩, _, k3, .inl ⟨by omega, k4, k5⟩⟩
theorem least_none {a b : Int} (h : b = 0) : leastV a b = none := if_pos h
theorem neg_rt {p q : Int} (h : Rt p q) : Rt (-p) q := ⟨by have := h.b; omega, by have := h.a; omega, h.c, h.d, by rw [Int.neg_gcd]; exact h.g⟩
def rtP (p : P) : Prop := ∀ x y, p = some (x, y) → Rt x y
theorem rt_least (a b : Int) : rtP (leastV a b) := fun x y e => (least_of e).1
theorem rt_none : rtP none := fun x y e => by cases e
theorem rt_two (k : Int) (s t : Int × Int) : rtP (twoR k s t) := by
  unfold twoR
  split
  · exact rt_least _ _
  · split
    · exact rt_least _ _
    · dsimp only
      generalize (if k = 6 then -t.1 else t.1) = c
      split
      · exact rt_least _ _
      · exact rt_none
theorem rt_neg {p : P} (h : rtP p) : rtP (p.bind fun s => some (-s.1, s.2)) := by
  cases p with
  | none => exact rt_none
  | some s => intro x y e; cases e; exact neg_rt (h s.1 s.2 rfl)
theorem nodeR_rt {k a b : Int} {l : List P} (h : ∀ p ∈ l, rtP p) : rtP (nodeR k a b l) := by
  unfold nodeR
  split
  · exact rt_least _ _
  · split
    · exact rt_none
    · match l with
      | [] => exact rt_none
      | [x] => exact rt_neg (h x (by simp))
      | x :: y :: _ =>
        cases x with
        | none => exact rt_none
        | some s =>
          by_cases k2 : k = 2
          · simp only [k2, if_true]
            exact rt_neg (h (some s) (by simp))
          · simp only [k2, if_false]
            cases y with
            | none => exact rt_none
            | some t => exact rt_two k s t
theorem F.evR_rt : ∀ (f : F) (p : P), p ∈ f.evR → rtP p
  | .nil, p, h => by cases h
  | .cons k a b s r, p, h => by
    rcases List.mem_cons.1 h with rfl | h
    · exact nodeR_rt s.evR_rt
    · exact r.evR_rt p h

/-! ### what is told exactly is in the span -/
/-- The number p / q is in the span from l to h, in parts. -/
def inS (l h p q : Int) : Prop := l * q ≤ 1000000000 * p ∧ 1000000000 * p ≤ h * q
def agree (s r : P) : Prop := ∀ l h p q, s = some (l, h) → r = some (p, q) → inS l h p q
theorem cancel {x y g : Int} (hg : 1 ≤ g) (h : x * g ≤ y * g) : x ≤ y := Int.le_of_mul_le_mul_right h (by omega)
/-- From a number to the same in its smallest numbers. -/
theorem in_least {l h a b p q : Int} (e : leastV a b = some (p, q)) (hb : 0 < b) (i : inS l h a b) : inS l h p q := by
  obtain ⟨_, g, hg, ⟨_, h1, h2⟩ | ⟨n, _⟩⟩ := least_of e
  · obtain ⟨i1, i2⟩ := i
    rw [h1, h2] at i1 i2
    exact ⟨cancel hg (by rw [Int.mul_assoc, Int.mul_assoc]; exact i1), cancel hg (by rw [Int.mul_assoc, Int.mul_assoc]; exact i2)⟩
  · omega
theorem in_least_neg {l h a b p q : Int} (e : leastV a b = some (p, q)) (hb : b < 0) (i : inS l h (-a) (-b)) : inS l h p q := by
  obtain ⟨_, g, hg, ⟨n, _⟩ | ⟨_, h1, h2⟩⟩ := least_of e
  · omega
  · obtain ⟨i1, i2⟩ := i
    rw [h1, h2] at i1 i2
    exact ⟨cancel hg (by rw [Int.mul_assoc, Int.mul_assoc]; exact i1), cancel hg (by rw [Int.mul_assoc, Int.mul_assoc]; exact i2)⟩
theorem in_neg {l h p q : Int} (i : inS l h p q) : inS (-h) (-l) (-p) q := by
  obtain ⟨i1, i2⟩ := i
  refine ⟨?_, ?_⟩
  · rw [Int.neg_mul, Int.mul_neg]; omega
  · rw [Int.neg_mul, Int.mul_neg]; omega
theorem in_add {l h l' h' a b c d : Int} (hb : 1 ≤ b) (hd : 1 ≤ d) (i : inS l h a b) (j : inS l' h' c d) : inS (l + l') (h + h') (a * d + c * b) (b * d) := by
  obtain ⟨i1, i2⟩ := i
  obtain ⟨j1, j2⟩ := j
  have m1 := Int.mul_le_mul_of_nonneg_right i1 (show (0 : Int) ≤ d by omega)
  have m2 := Int.mul_le_mul_of_nonneg_right i2 (show (0 : Int) ≤ d by omega)
  have n1 := Int.mul_le_mul_of_nonneg_right j1 (show (0 : Int) ≤ b by omega)
  have n2 := Int.mul_le_mul_of_nonneg_right j2 (show (0 : Int) ≤ b by omega)
  constructor
  · grind
  · grind
theorem min4_mul {a b c d g : Int} (hg : 0 ≤ g) : min (min (a * g) (b * g)) (min (c * g) (d * g)) = min (min a b) (min c d) * g := by
  have key : ∀ x y : Int, min (x * g) (y * g) = min x y * g := fun x y => by
    rcases Int.le_total x y with h | h
    · rw [Int.min_eq_left h, Int.min_eq_left (Int.mul_le_mul_of_nonneg_right h hg)]
    · rw [Int.min_eq_right h, Int.min_eq_right (Int.mul_le_mul_of_nonneg_right h hg)]
  rw [key, key, key]
theorem max4_mul {a b c d g : Int} (hg : 0 ≤ g) : max (max (a * g) (b * g)) (max (c * g) (d * g)) = max (max a b) (max c d) * g := by
  have key : ∀ x y : Int, max (x * g) (y * g) = max x y * g := fun x y => by
    rcases Int.le_total x y with h | h
    · rw [Int.max_eq_right h, Int.max_eq_right (Int.mul_le_mul_of_nonneg_right h hg)]
    · rw [Int.max_eq_left h, Int.max_eq_left (Int.mul_le_mul_of_nonneg_right h hg)]
  rw [key, key, key]
theorem in_mul {l h l' h' a b c d : Int} (hb : 1 ≤ b) (hd : 1 ≤ d) (i : inS l h a b) (j : inS l' h' c d) : inS (mulLo l h l' h') (mulHi l h l' h') (a * c) (b * d) := by
  obtain ⟨i1, i2⟩ := i
  obtain ⟨j1, j2⟩ := j
  have bd : 0 ≤ b * d := Int.mul_nonneg (by omega) (by omega)
  obtain ⟨c1, c2⟩ := corner i1 i2 j1 j2
  have r : ∀ x y : Int, x * b * (y * d) = x * y * (b * d) := fun x y => by grind
  rw [r, r, r, r, min4_mul bd] at c1
  rw [r, r, r, r, max4_mul bd] at c2
  rw [← mulLo_min, ← mulHi_max]
  generalize min (min (l * l') (l * h')) (min (h * l') (h * h')) = m at *
  generalize max (max (l * l') (l * h')) (max (h * l') (h * h')) = n at *
  have d1 := (le_down (a := m) (b := 1000000000) (k := down m 1000000000) (by omega)).1 (Int.le_refl _)
  have d2 := (up_le (a := n) (b := 1000000000) (k := up n 1000000000) (by omega)).1 (Int.le_refl _)
  have e1 := Int.mul_le_mul_of_nonneg_right d1 bd
  have e2 := Int.mul_le_mul_of_nonneg_right d2 bd
  constructor
  · grind
  · grind
theorem in_div {l h l' h' a b c d : Int} (hb : 1 ≤ b) (hd : 1 ≤ d) (k : l' ≤ h') (hp : 1 ≤ l') (i : inS l h a b) (j : inS l' h' c d) : 0 < c ∧ inS (divLo l h l' h') (divHi l h l' h') (a * d) (b * c) := by
  obtain ⟨i1, i2⟩ := i
  obtain ⟨j1, j2⟩ := j
  have cp : 0 < c := by
    have := Int.mul_le_mul hp hd (by omega) (by omega)
    omega
  refine ⟨cp, ?_⟩
  obtain ⟨p1, p2⟩ := div_pos (sl := l) (sh := h) (th := h') hp (Int.le_refl _) k
  obtain ⟨p3, p4⟩ := div_pos (sl := l) (sh := h) (th := h') hp k (Int.le_refl _)
  generalize divLo l h l' h' = lo at *
  generalize divHi l h l' h' = hi at *
  have n0 := (lin lo j1 j2).2
  have n1 := (lin hi j1 j2).1
  have q1 := Int.mul_le_mul_of_nonneg_right p1 (show (0 : Int) ≤ d by omega)
  have q2 := Int.mul_le_mul_of_nonneg_right p2 (show (0 : Int) ≤ d by omega)
  have q3 := Int.mul_le_mul_of_nonneg_right p3 (show (0 : Int) ≤ d by omega)
  have q4 := Int.mul_le_mul_of_nonneg_right p4 (show (0 : Int) ≤ d by omega)
  have a1 : 1000000000 * c * lo ≤ 1000000000 * l * d := by
    have x1 : l' * d * lo = lo * l' * d := by grind
    have x2 : h' * d * lo = lo * h' * d := by grind
    rw [x1, x2] at n0
    omega
  have a2 : 1000000000 * h * d ≤ 1000000000 * c * hi := by
    have x1 : l' * d * hi = hi * l' * d := by grind
    have x2 : h' * d * hi = hi * h' * d := by grind
    rw [x1, x2] at n1
    omega
  have b1 := Int.mul_le_mul_of_nonneg_right a1 (show (0 : Int) ≤ b by omega)
  have b2 := Int.mul_le_mul_of_nonneg_right a2 (show (0 : Int) ≤ b by omega)
  have b3 := Int.mul_le_mul_of_nonneg_right i1 (show (0 : Int) ≤ d by omega)
  have b4 := Int.mul_le_mul_of_nonneg_right i2 (show (0 : Int) ≤ d by omega)
  constructor
  · have : 1000000000 * (lo * (b * c)) ≤ 1000000000 * (1000000000 * (a * d)) := by grind
    omega
  · have : 1000000000 * (1000000000 * (a * d)) ≤ 1000000000 * (hi * (b * c)) := by grind
    omega
end EM
end Go.Proofs.Ytlkompbigpbefab
