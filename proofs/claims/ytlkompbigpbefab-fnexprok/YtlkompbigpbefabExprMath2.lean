/-
  What is reckoned exactly is in the span; what is surely rounded is that, rounded; what the other promises on it say of trees. No Go text in sight.
-/
import Derived.Test.YtlkompbigpbefabExprMath
import Derived.Test.YtlkompbigpbefabSureMath
import Derived.Test.YtlkompbigpbefabNumLaws
namespace Go.Proofs.Ytlkompbigpbefab
namespace EM
set_option linter.unusedVariables false
open SM NM
theorem in_div_neg {l h l' h' a b c d : Int} (hb : 1 ≤ b) (hd : 1 ≤ d) (k : l' ≤ h') (hp : h' < 0) (i : inS l h a b) (j : inS l' h' c d) : c < 0 ∧ inS (divLo l h l' h') (divHi l h l' h') (-(a * d)) (-(b * c)) := by
  obtain ⟨i1, i2⟩ := i
  obtain ⟨j1, j2⟩ := j
  have cn : c < 0 := by
    have := Int.mul_le_mul (show (1 : Int) ≤ -h' by omega) hd (by omega) (by omega)
    rw [Int.neg_mul] at this
    omega
  refine ⟨cn, ?_⟩
  obtain ⟨p1, p2⟩ := div_neg (sl := l) (sh := h) (tl := l') hp (Int.le_refl _) k
  obtain ⟨p3, p4⟩ := div_neg (sl := l) (sh := h) (tl := l') hp k (Int.le_refl _)
  generalize divLo l h l' h' = lo at *
  generalize divHi l h l' h' = hi at *
  have n0 := (lin lo j1 j2).1
  have n1 := (lin hi j1 j2).2
  have q1 := Int.mul_le_mul_of_nonneg_right p1 (show (0 : Int) ≤ d by omega)
  have q2 := Int.mul_le_mul_of_nonneg_right p2 (show (0 : Int) ≤ d by omega)
  have q3 := Int.mul_le_mul_of_nonneg_right p3 (show (0 : Int) ≤ d by omega)
  have q4 := Int.mul_le_mul_of_nonneg_right p4 (show (0 : Int) ≤ d by omega)
  have a1 : 1000000000 * h * d ≤ 1000000000 * c * lo := by
    have x1 : l' * d * lo = lo * l' * d := by grind
    have x2 : h' * d * lo = lo * h' * d := by grind
    rw [x1, x2] at n0
    omega
  have a2 : 1000000000 * c * hi ≤ 1000000000 * l * d := by
    have x1 : l' * d * hi = hi * l' * d := by grind
    have x2 : h' * d * hi = hi * h' * d := by grind
    rw [x1, x2] at n1
    omega
  have b1 := Int.mul_le_mul_of_nonneg_right a1 (show (0 : Int) ≤ b by omega)
  have b2 := Int.mul_le_mul_of_nonneg_right a2 (show (0 : Int) ≤ b by omega)
  have b3 := Int.mul_le_mul_of_nonneg_right i1 (show (0 : Int) ≤ d by omega)
  have b4 := Int.mul_le_mul_of_nonneg_right i2 (show (0 : Int) ≤ d by omega)
  constructor
  · have : 1000000000 * (lo * -(b * c)) ≤ 1000000000 * (1000000000 * -(a * d)) := by grind
    omega
  · have : 1000000000 * (1000000000 * -(a * d)) ≤ 1000000000 * (hi * -(b * c)) := by grind
    omega
theorem len0 {s : F} (h : s.len = 0) : s = .nil := by
  cases s with
  | nil => rfl
  | cons k a b s r => simp [F.len] at h
theorem len1 {s : F} (h : s.len = 1) : ∃ k a b t, s = .cons k a b t .nil := by
  cases s with
  | nil => simp [F.len] at h
  | cons k a b s r => simp only [F.len] at h; exact ⟨k, a, b, s, by rw [len0 (s := r) (by omega)]⟩
theorem len2 {s : F} (h : s.len = 2) : ∃ k a b t k' a' b' t', s = .cons k a b t (.cons k' a' b' t' .nil) := by
  cases s with
  | nil => simp [F.len] at h
  | cons k a b s r =>
    simp only [F.len] at h
    obtain ⟨k', a', b', t', rfl⟩ := len1 (s := r) (by omega)
    exact ⟨k, a, b, s, k', a', b', t', rfl⟩
theorem agree_none {s : P} : agree s none := fun l h p q _ e => by cases e
theorem bin_agree {k : Int} (hk : k = 5 ∨ k = 6 ∨ k = 7 ∨ k = 8) {s t x y : Int × Int} (o1 : okS s.1 s.2 = true) (o2 : okS t.1 t.2 = true) (rx : Rt x.1 x.2) (ry : Rt y.1 y.2) (i : inS s.1 s.2 x.1 x.2) (j : inS t.1 t.2 y.1 y.2) : agree (binS k s t) (twoR k x y) := by
  intro l h p q e f
  have b1 := rx.c
  have b2 := ry.c
  have bd : 0 < x.2 * y.2 := Int.mul_pos (by omega) (by omega)
  rcases hk with rfl | rfl | rfl | rfl
  · unfold binS at e
    unfold twoR at f
    simp only [if_true, if_neg (show ¬ (5 : Int) = 7 by decide), if_neg (show ¬ (5 : Int) = 8 by decide), if_neg (show ¬ (5 : Int) = 6 by decide)] at e f
    obtain ⟨_, rfl, rfl⟩ := opt_of e
    split at f
    · exact in_least f bd (in_add b1 b2 i j)
    · cases f
  · unfold binS at e
    unfold twoR at f
    simp only [if_true, if_neg (show ¬ (6 : Int) = 7 by decide), if_neg (show ¬ (6 : Int) = 8 by decide), if_neg (show ¬ (6 : Int) = 5 by decide)] at e f
    obtain ⟨_, rfl, rfl⟩ := opt_of e
    split at f
    · exact in_least f bd (in_add b1 b2 i (in_neg j))
    · cases f
  · unfold binS at e
    unfold twoR at f
    simp only [if_true, if_neg (show ¬ (7 : Int) = 5 by decide), if_neg (show ¬ (7 : Int) = 6 by decide)] at e f
    obtain ⟨_, rfl, rfl⟩ := opt_of e
    exact in_least f bd (in_mul b1 b2 i j)
  · unfold binS at e
    unfold twoR at f
    simp only [if_true, if_neg (show ¬ (8 : Int) = 5 by decide), if_neg (show ¬ (8 : Int) = 6 by decide), if_neg (show ¬ (8 : Int) = 7 by decide)] at e f
    obtain ⟨hd, rfl, rfl⟩ := opt_of e
    obtain ⟨_, _, ha, _⟩ := div_of hd
    have ot := okS_of o2
    rcases ha with n | n
    · obtain ⟨c0, i0⟩ := in_div_neg b1 b2 ot.2.1 n i j
      exact in_least_neg f (Int.mul_neg_of_pos_of_neg (by omega) c0) i0
    · obtain ⟨c0, i0⟩ := in_div b1 b2 ot.2.1 n i j
      exact in_least f (Int.mul_pos (by omega) c0) i0
theorem node_agree {k a b : Int} {s : F} (hf : formB k a b s.len = true) (ih : ∀ (i : Nat) x y, s.evS[i]? = some x → s.evR[i]? = some y → agree x y) : agree (nodeS k a b s.evS) (nodeR k a b s.evR) := by
  rcases form_kinds hf with ⟨rfl, hn, ha, hb⟩ | ⟨rfl, hn, ha, hb⟩ | ⟨hk, hn, rfl, rfl⟩ | ⟨hk, hn, rfl, rfl⟩
  · rw [len0 hn]
    intro l h p q e f
    simp only [F.evS, nodeS, leafS, if_true] at e
    simp only [F.evR, nodeR, if_true] at f
    obtain ⟨ho, rfl, rfl⟩ := opt_of e
    exact in_least f (by omega) ⟨(has_of (of_has ho)).2.2.1, (has_of (of_has ho)).2.2.2⟩
  · unfold nodeR
    rw [if_neg (by decide), if_pos (.inr rfl)]
    exact agree_none
  · rcases hk with rfl | rfl
    · obtain ⟨k1, a1, b1, t1, rfl⟩ := len1 hn
      have i0 : agree (nodeS k1 a1 b1 t1.evS) (nodeR k1 a1 b1 t1.evR) := ih 0 _ _ rfl rfl
      show agree ((nodeS k1 a1 b1 t1.evS).bind (unS 2)) ((nodeR k1 a1 b1 t1.evR).bind fun s => some (-s.1, s.2))
      intro l h p q e f
      generalize nodeS k1 a1 b1 t1.evS = x at *
      generalize nodeR k1 a1 b1 t1.evR = y at *
      cases x with
      | none => cases e
      | some x =>
        cases y with
        | none => cases f
        | some y =>
          simp only [Option.bind_some, unS, if_true, Option.some.injEq, Prod.mk.injEq] at e f
          obtain ⟨rfl, rfl⟩ := e
          obtain ⟨rfl, rfl⟩ := f
          exact in_neg (i0 _ _ _ _ rfl rfl)
    · unfold nodeR
      rw [if_neg (by decide), if_pos (.inl rfl)]
      exact agree_none
  · obtain ⟨k1, a1, b1, t1, k2, a2, b2, t2, rfl⟩ := len2 hn
    have i0 : agree (nodeS k1 a1 b1 t1.evS) (nodeR k1 a1 b1 t1.evR) := ih 0 _ _ rfl rfl
    have i1 : agree (nodeS k2 a2 b2 t2.evS) (nodeR k2 a2 b2 t2.evR) := ih 1 _ _ rfl rfl
    have o0 : okP (nodeS k1 a1 b1 t1.evS) := nodeS_ok t1.evS_ok
    have o1 : okP (nodeS k2 a2 b2 t2.evS) := nodeS_ok t2.evS_ok
    have r0 : rtP (nodeR k1 a1 b1 t1.evR) := nodeR_rt t1.evR_rt
    have r1 : rtP (nodeR k2 a2 b2 t2.evR) := nodeR_rt t2.evR_rt
    rw [show nodeR k 0 0 (F.cons k1 a1 b1 t1 (F.cons k2 a2 b2 t2 F.nil)).evR = (nodeR k1 a1 b1 t1.evR).bind (fun s => if k = 2 then some (-s.1, s.2) else (nodeR k2 a2 b2 t2.evR).bind fun t => twoR k s t) by
      conv => lhs; unfold nodeR
      rw [if_neg (by omega : ¬ k = 1), if_neg (by omega : ¬ (k = 3 ∨ k = 4))]
      rfl]
    show agree ((nodeS k1 a1 b1 t1.evS).bind fun s => (nodeS k2 a2 b2 t2.evS).bind fun t => binS k s t) _
    generalize nodeS k1 a1 b1 t1.evS = x at *
    generalize nodeS k2 a2 b2 t2.evS = x' at *
    intro l h p q e f
    generalize nodeR k1 a1 b1 t1.evR = y at *
    generalize nodeR k2 a2 b2 t2.evR = y' at *
    cases x with
    | none => cases e
    | some x =>
      cases x' with
      | none => cases e
      | some x' =>
        cases y with
        | none => cases f
        | some y =>
          simp only [Option.bind_some, if_neg (show ¬ k = 2 by omega)] at e f
          cases y' with
          | none => cases f
          | some y' => exact bin_agree hk (o0 _ _ rfl) (o1 _ _ rfl) (r0 _ _ rfl) (r1 _ _ rfl) (i0 _ _ _ _ rfl rfl) (i1 _ _ _ _ rfl rfl) l h p q e f
theorem F.top : ∀ (f : F), f.okF = true → ∀ (i : Nat) x y, f.evS[i]? = some x → f.evR[i]? = some y → agree x y
  | .nil, _, i, x, y, e, _ => by simp [F.evS] at e
  | .cons k a b s r, ho, i, x, y, e, g => by
    simp only [F.okF, Bool.and_eq_true] at ho
    cases i with
    | zero =>
      simp only [F.evS, F.evR, List.getElem?_cons_zero, Option.some.injEq] at e g
      subst e g
      exact node_agree ho.1 (F.top s ho.2.1)
    | succ i =>
      simp only [F.evS, F.evR, List.getElem?_cons_succ] at e g
      exact F.top r ho.2.2 i x y e g
/-- What is told exactly is in the span. -/
theorem top {k a b : Int} {s : F} (ho : okB k a b s = true) {l h p q : Int} (e : nodeS k a b s.evS = some (l, h)) (g : nodeR k a b s.evR = some (p, q)) : hasB l h p q = true := by
  unfold okB at ho
  simp only [Bool.and_eq_true] at ho
  have i := node_agree ho.1 (F.top s ho.2.1) l h p q e g
  have r := nodeR_rt (k := k) (a := a) (b := b) s.evR_rt p q g
  exact has_mk (nodeS_ok (k := k) (a := a) (b := b) s.evS_ok l h e) (ratB_mk ⟨r.a, r.b, r.c, r.d⟩) i.1 i.2
/-! ### in the smallest numbers -/
theorem least_no {p q k : Int} (h : Rt p q) (hk : 2 ≤ k) : ¬ (p.tmod k = 0 ∧ q.tmod k = 0) := by
  rintro ⟨h1, h2⟩
  have d1 : k ∣ p := Int.dvd_of_tmod_eq_zero h1
  have d2 : k ∣ q := Int.dvd_of_tmod_eq_zero h2
  have d := Int.dvd_coe_gcd d1 d2
  rw [h.g] at d
  have := Int.le_of_dvd (by decide) d
  omega
theorem least_zero {p q : Int} (h : Rt p q) : p ≠ 0 ∨ q = 1 := by
  by_cases z : p = 0
  · right
    have g := h.g
    rw [z, Int.zero_gcd] at g
    have := h.c
    omega
  · exact .inl z
/-! ### Kids -/
theorem kid_ok {k a b k1 a1 b1 : Int} {s : F} (ho : okB k a b s = true) : ∀ (f : F), f.okF = true → f.cnt ≤ s.cnt → (∃ t r, f = .cons k1 a1 b1 t r) → True := fun _ _ _ _ => trivial
theorem F.kids_ok : ∀ (f : F), f.okF = true → f.cnt ≤ 14 → ∀ k a b s r, f = .cons k a b s r → okB k a b s = true ∧ r.okF = true ∧ r.cnt ≤ 14 := by
  rintro f ho hc k a b s r rfl
  simp only [F.okF, Bool.and_eq_true] at ho
  simp only [F.cnt] at hc
  have := s.cnt_nn
  have := r.cnt_nn
  refine ⟨?_, ho.2.2, by omega⟩
  unfold okB
  rw [ho.1, ho.2.1, decide_eq_true (by omega)]
  rfl
theorem okB_of {k a b : Int} {s : F} (h : okB k a b s = true) : formB k a b s.len = true ∧ s.okF = true ∧ 1 + s.cnt ≤ 15 := by
  unfold okB at h
  simp only [Bool.and_eq_true, decide_eq_true_eq] at h
  exact ⟨h.1, h.2.1, h.2.2⟩
theorem okB_size {k a b : Int} {s : F} : decide (szV (formB k a b s.len && s.okF) (1 + s.cnt) 15 ≤ 15) = okB k a b s := by
  rw [szV_fits]
  unfold okB
  rw [Bool.and_assoc]
/-! ### turned about, and the other way -/
theorem add_comm' (k : Int) (hk : k = 5 ∨ k = 7) (s t : Int × Int) : binS k s t = binS k t s := by
  unfold binS
  rcases hk with rfl | rfl
  · simp only [if_true]
    rw [add_swap, Int.add_comm s.1, Int.add_comm s.2]
  · simp only [if_true, if_neg (show ¬ (7 : Int) = 5 by decide), if_neg (show ¬ (7 : Int) = 6 by decide)]
    rw [mul_swap, mulLo_swap, mulHi_swap]
theorem node_swap {k a b : Int} (hk : k = 5 ∨ k = 7) (x y : P) : nodeS k a b [x, y] = nodeS k a b [y, x] := by
  simp only [nodeS]
  cases x with
  | none => cases y <;> rfl
  | some s =>
    cases y with
    | none => rfl
    | some t => simp only [Option.bind_some]; exact add_comm' k hk s t
/-! ### rounded -/
theorem scale_down {a b g : Int} (hb : 1 ≤ b) (hg : 1 ≤ g) : down (a * g) (b * g) = down a b := Int.mul_ediv_mul_of_pos_left _ _ (by omega)
theorem scale_up {a b g : Int} (hb : 1 ≤ b) (hg : 1 ≤ g) : up (a * g) (b * g) = up a b := by
  unfold up
  rw [← Int.neg_mul]
  exact congrArg Neg.neg (scale_down (a := -a) hb hg)
theorem scale_tdiv {a b g : Int} (hg : 1 ≤ g) : (a * g).tdiv (b * g) = a.tdiv b := Int.mul_tdiv_mul_of_pos_left _ _ (by omega)
theorem scale_even {a b g : Int} (hb : 1 ≤ b) (hg : 1 ≤ g) : even (a * g) (b * g) = even a b := by
  unfold even
  rw [scale_down hb hg]
  have e : 2 * (a * g - down a b * (b * g)) = 2 * (a - down a b * b) * g := by grind
  rw [e]
  have i1 : b * g < 2 * (a - down a b * b) * g ↔ b < 2 * (a - down a b * b) := ⟨fun h => Int.lt_of_mul_lt_mul_right h (by omega), fun h => Int.mul_lt_mul_of_pos_right h (by omega)⟩
  have i2 : 2 * (a - down a b * b) * g = b * g ↔ 2 * (a - down a b * b) = b := ⟨fun h => Int.eq_of_mul_eq_mul_right (by omega) h, fun h => by rw [h]⟩
  simp only [i1, i2]
theorem scale_rnd {a b g y : Int} (hb : 1 ≤ b) (hg : 1 ≤ g) : rnd (a * g) (b * g) y = rnd a b y := by
  unfold rnd
  rw [scale_down hb hg, scale_up hb hg, scale_tdiv hg, scale_even hb hg]
end EM
end Go.Proofs.Ytlkompbigpbefab
