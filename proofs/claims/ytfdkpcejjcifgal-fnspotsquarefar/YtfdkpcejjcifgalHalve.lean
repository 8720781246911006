/-
  Halving by a question; the angles of sines, and of places. No Go text in sight.
-/
import Derived.Test.YtfdkpcejjcifgalSineStrict
namespace Go.Proofs.Ytfdkpcejjcifgal
namespace SI
set_option linter.unusedVariables false
/-- Two angles halved by a question, so many times at most. -/
def hv (f : Int → Bool) : Nat → Int → Int → Int × Int
  | 0, l, h => (l, h)
  | n + 1, l, h => if 1 < h - l then (match f (NM.down (l + h) 2) with | true => hv f n (NM.down (l + h) 2) h | false => hv f n l (NM.down (l + h) 2)) else (l, h)
theorem mid_bd {l h : Int} (c : 1 < h - l) : l < NM.down (l + h) 2 ∧ NM.down (l + h) 2 < h := by unfold NM.down; omega
theorem hv_end {f : Int → Bool} {n : Nat} {l h : Int} (c : ¬ 1 < h - l) : hv f n l h = (l, h) := by
  cases n with
  | zero => rfl
  | succ n => simp only [hv]; rw [if_neg c]
theorem hv_yes {f : Int → Bool} {n : Nat} {l h : Int} (c : 1 < h - l) (e : f (NM.down (l + h) 2) = true) : hv f (n + 1) l h = hv f n (NM.down (l + h) 2) h := by
  simp only [hv]; rw [if_pos c, e]
theorem hv_not {f : Int → Bool} {n : Nat} {l h : Int} (c : 1 < h - l) (e : f (NM.down (l + h) 2) = false) : hv f (n + 1) l h = hv f n l (NM.down (l + h) 2) := by
  simp only [hv]; rw [if_pos c, e]
theorem hv_inv {f : Int → Bool} {P Q : Int → Prop} (hP : ∀ m, f m = true → P m) (hQ : ∀ m, f m = false → Q m) : ∀ (n : Nat) (l h : Int), l ≤ h → P l → Q h → l ≤ (hv f n l h).1 ∧ (hv f n l h).1 ≤ (hv f n l h).2 ∧ (hv f n l h).2 ≤ h ∧ P (hv f n l h).1 ∧ Q (hv f n l h).2 := by
  intro n
  induction n with
  | zero => intro l h c p q; exact ⟨Int.le_refl _, c, Int.le_refl _, p, q⟩
  | succ n ih =>
    intro l h c p q
    by_cases k : 1 < h - l
    · have m := mid_bd k
      cases e : f (NM.down (l + h) 2) with
      | true =>
        rw [hv_yes k e]
        have := ih (NM.down (l + h) 2) h (by omega) (hP _ e) q
        exact ⟨by omega, this.2.1, this.2.2.1, this.2.2.2⟩
      | false =>
        rw [hv_not k e]
        have := ih l (NM.down (l + h) 2) (by omega) p (hQ _ e)
        exact ⟨this.1, this.2.1, by omega, this.2.2.2⟩
    · rw [hv_end k]
      exact ⟨Int.le_refl _, c, Int.le_refl _, p, q⟩
/-! ### the angle of a sine -/
def sbL (x : Int) : Int := (hv (fun m => decide (siH (2 * m) ≤ x)) 27 (-32400000) 32400000).1
def sbH (x : Int) : Int := (hv (fun m => decide (siL (2 * m) < x)) 27 (-32400000) 32400000).2
structure Sb (x L H : Int) : Prop where
  lo : siH (2 * L) ≤ x
  hi : x ≤ siL (2 * H)
  l0 : -32400000 ≤ L
  l1 : L ≤ 32400000
  h0 : -32400000 ≤ H
  h1 : H ≤ 32400000
theorem at_q : siL (2 * 32400000) = 1000000000 ∧ siH (2 * 32400000) = 1000000000 := ex3
theorem at_mq : siL (2 * -32400000) = -1000000000 ∧ siH (2 * -32400000) = -1000000000 := by
  obtain ⟨a, b⟩ := si_neg 64800000
  obtain ⟨c, d⟩ := ex3
  have e : (2 : Int) * -32400000 = -64800000 := by decide
  rw [e, a, b, c, d]
  decide
theorem sb_of {x : Int} (x0 : -1000000000 ≤ x) (x1 : x ≤ 1000000000) : Sb x (sbL x) (sbH x) := by
  have a := hv_inv (f := fun m => decide (siH (2 * m) ≤ x)) (P := fun m => siH (2 * m) ≤ x) (Q := fun _ => True) (fun m e => of_decide_eq_true e) (fun _ _ => trivial) 27 (-32400000) 32400000 (by decide) (by have := at_mq.2; omega) trivial
  have b := hv_inv (f := fun m => decide (siL (2 * m) < x)) (P := fun _ => True) (Q := fun m => x ≤ siL (2 * m)) (fun _ _ => trivial) (fun m e => by have := of_decide_eq_false e; omega) 27 (-32400000) 32400000 (by decide) trivial (by have := at_q.1; omega)
  exact ⟨a.2.2.2.1, b.2.2.2.2, a.1, by have := a.2.1; have := a.2.2.1; unfold sbL; omega, by have := b.1; have := b.2.1; unfold sbH; omega, b.2.2.1⟩
/-- A greater number's fan does not end ahead of a lesser one's. -/
theorem sb_meet {x y : Int} (x0 : -1000000000 ≤ x) (h : x ≤ y) (y1 : y ≤ 1000000000) : sbL x ≤ sbH y := by
  have a := sb_of x0 (show x ≤ 1000000000 by omega)
  have b := sb_of (show -1000000000 ≤ y by omega) y1
  by_cases c : sbL x ≤ sbH y
  · exact c
  · have := si_strict b.h0 (show sbH y < sbL x by omega) a.l1
    have := a.lo
    have := b.hi
    omega
/-- An angle is in the fans of its sine. -/
theorem sb_angle {a : Int} (a0 : -32400000 ≤ a) (a1 : a ≤ 32400000) : sbL (siL (2 * a)) ≤ a ∧ a ≤ sbH (siH (2 * a)) := by
  obtain ⟨_, f1, f2, f3, _⟩ := si_enc (2 * a)
  have p := sb_of (x := siL (2 * a)) f1 (by omega)
  have q := sb_of (x := siH (2 * a)) (by omega) f3
  constructor
  · by_cases c : sbL (siL (2 * a)) ≤ a
    · exact c
    · have := si_strict a0 (show a < sbL (siL (2 * a)) by omega) p.l1
      have := p.lo
      omega
  · by_cases c : a ≤ sbH (siH (2 * a))
    · exact c
    · have := si_strict q.h0 (show sbH (siH (2 * a)) < a by omega) a1
      have := q.hi
      omega
theorem si_back (a : Int) : siL (2 * -a) = -siH (2 * a) ∧ siH (2 * -a) = -siL (2 * a) := by
  have e : 2 * -a = -(2 * a) := by omega
  rw [e]
  exact si_neg _
/-- Turned about fans have the angle in common. -/
theorem sb_neg {x : Int} (x0 : -1000000000 ≤ x) (x1 : x ≤ 1000000000) : -sbH x ≤ sbH (-x) ∧ sbL (-x) ≤ -sbL x := by
  have p := sb_of x0 x1
  have q := sb_of (x := -x) (by omega) (by omega)
  have b1 := si_back (sbH x)
  have b2 := si_back (sbL x)
  constructor
  · by_cases c : -sbH x ≤ sbH (-x)
    · exact c
    · have := si_strict q.h0 (show sbH (-x) < -sbH x by omega) (by have := p.h0; omega)
      have := q.hi
      have := p.hi
      omega
  · by_cases c : sbL (-x) ≤ -sbL x
    · exact c
    · have := si_strict (show -32400000 ≤ -sbL x by have := p.l1; omega) (show -sbL x < sbL (-x) by omega) q.l1
      have := q.lo
      have := p.lo
      omega
/-- A cosine of what is lacking to a quarter. -/
theorem cos_lack (a : Int) : siL (2 * (32400000 - a) + 64800000) = siL (2 * a) ∧ siH (2 * (32400000 - a) + 64800000) = siH (2 * a) := by
  have e : 2 * (32400000 - a) + 64800000 = 129600000 - 2 * a := by omega
  rw [e]
  exact si_lack _
theorem cos_at (a : Int) : siL (2 * a + 64800000) = siL (2 * (32400000 - a)) ∧ siH (2 * a + 64800000) = siH (2 * (32400000 - a)) := by
  have := cos_lack (32400000 - a)
  have e : 32400000 - (32400000 - a) = a := by omega
  rwa [e] at this
/-! ### the angle of a place -/
def sdL (u r m : Int) : Int := NM.down (u * siL (2 * m + 64800000)) 1000000000 - NM.up (r * siH (2 * m)) 1000000000
def sdH (u r m : Int) : Int := NM.up (u * siH (2 * m + 64800000)) 1000000000 - NM.down (r * siL (2 * m)) 1000000000
def wqL (u r : Int) : Int := (hv (fun m => decide (0 ≤ sdL u r m)) 27 0 32400000).1
def wqH (u r : Int) : Int := (hv (fun m => decide (0 ≤ sdL u r m ∨ 0 < sdH u r m)) 27 0 32400000).2
theorem sdL_of {u r m : Int} (h : 0 ≤ sdL u r m) : r * siH (2 * m) ≤ u * siL (2 * m + 64800000) := by
  unfold sdL NM.down NM.up at h
  omega
theorem sdH_of {u r m : Int} (h : ¬ 0 < sdH u r m) : u * siH (2 * m + 64800000) ≤ r * siL (2 * m) := by
  unfold sdH NM.down NM.up at h
  omega
structure Wq (u r L H : Int) : Prop where
  lo : r * siH (2 * L) ≤ u * siL (2 * L + 64800000)
  hi : u * siH (2 * H + 64800000) ≤ r * siL (2 * H)
  l0 : 0 ≤ L
  l1 : L ≤ 32400000
  h0 : 0 ≤ H
  h1 : H ≤ 32400000
theorem wq_of {u r : Int} (u0 : 0 ≤ u) (r0 : 0 ≤ r) : Wq u r (wqL u r) (wqH u r) := by
  have z := ex0
  have t := ex3
  have s6 := ex6
  have e1 : (2 : Int) * 0 = 0 := by decide
  have e2 : (2 : Int) * 0 + 64800000 = 64800000 := by decide
  have e3 : (2 : Int) * 32400000 + 64800000 = 129600000 := by decide
  have e4 : (2 : Int) * 32400000 = 64800000 := by decide
  have a := hv_inv (f := fun m => decide (0 ≤ sdL u r m)) (P := fun m => r * siH (2 * m) ≤ u * siL (2 * m + 64800000)) (Q := fun _ => True) (fun m e => sdL_of (of_decide_eq_true e)) (fun _ _ => trivial) 27 0 32400000 (by decide) (by rw [e2, e1, z.2, t.1]; omega) trivial
  have b := hv_inv (f := fun m => decide (0 ≤ sdL u r m ∨ 0 < sdH u r m)) (P := fun _ => True) (Q := fun m => u * siH (2 * m + 64800000) ≤ r * siL (2 * m)) (fun _ _ => trivial) (fun m e => sdH_of (fun c => of_decide_eq_false e (Or.inr c))) 27 0 32400000 (by decide) trivial (by rw [e3, e4, s6.2, t.1]; omega)
  exact ⟨a.2.2.2.1, b.2.2.2.2, a.1, by have := a.2.1; have := a.2.2.1; unfold wqL; omega, by have := b.1; have := b.2.1; unfold wqH; omega, b.2.2.1⟩
/-- A place cannot lie below one angle and above a greater one. -/
theorem apart {u r a b : Int} (u0 : 0 ≤ u) (r0 : 0 ≤ r) (ur : 0 < u ∨ 0 < r) (a0 : 0 ≤ a) (h : a < b) (b1 : b ≤ 32400000) (h1 : u * siH (2 * a + 64800000) ≤ r * siL (2 * a)) (h2 : r * siH (2 * b) ≤ u * siL (2 * b + 64800000)) : False := by
  have s := si_strict (show -32400000 ≤ a by omega) h b1
  have c := si_strict (show -32400000 ≤ 32400000 - b by omega) (show 32400000 - b < 32400000 - a by omega) (by omega)
  rw [← (cos_at b).1, ← (cos_at a).2] at c
  generalize siH (2 * a + 64800000) = ca at *
  generalize siL (2 * a) = sa at *
  generalize siH (2 * b) = sb at *
  generalize siL (2 * b + 64800000) = cb at *
  have m1 := Int.mul_le_mul_of_nonneg_left (show sa ≤ sb by omega) r0
  have m2 := Int.mul_le_mul_of_nonneg_left (show cb ≤ ca by omega) u0
  rcases ur with k | k
  · have := Int.mul_lt_mul_of_pos_left c k
    omega
  · have := Int.mul_lt_mul_of_pos_left s k
    omega
theorem wq_le {u r : Int} (u0 : 0 ≤ u) (r0 : 0 ≤ r) (ur : 0 < u ∨ 0 < r) : wqL u r ≤ wqH u r := by
  have p := wq_of u0 r0
  by_cases c : wqL u r ≤ wqH u r
  · exact c
  · exact (apart u0 r0 ur p.h0 (show wqH u r < wqL u r by omega) p.l1 p.hi p.lo).elim
/-- With up and right changed. -/
theorem wq_swap {u r : Int} (u0 : 0 ≤ u) (r0 : 0 ≤ r) (ur : 0 < u ∨ 0 < r) : 32400000 - wqH r u ≤ wqH u r ∧ wqL u r ≤ 32400000 - wqL r u := by
  have p := wq_of u0 r0
  have q := wq_of r0 u0
  have e : ∀ x : Int, 32400000 - (32400000 - x) = x := fun x => by omega
  constructor
  · by_cases c : 32400000 - wqH r u ≤ wqH u r
    · exact c
    · refine (apart u0 r0 ur p.h0 (show wqH u r < 32400000 - wqH r u by omega) (by have := q.h0; omega) p.hi ?_).elim
      have := q.hi
      rw [(cos_at (wqH r u)).2] at this
      rw [(cos_at (32400000 - wqH r u)).1, e]
      exact this
  · by_cases c : wqL u r ≤ 32400000 - wqL r u
    · exact c
    · refine (apart u0 r0 ur (show 0 ≤ 32400000 - wqL r u by have := q.l1; omega) (show 32400000 - wqL r u < wqL u r by omega) p.l1 ?_ p.lo).elim
      have := q.lo
      rw [(cos_at (wqL r u)).1] at this
      rw [(cos_at (32400000 - wqL r u)).2, e]
      exact this
/-- Twice as far. -/
theorem wq_long {u r : Int} (u0 : 0 ≤ u) (r0 : 0 ≤ r) (ur : 0 < u ∨ 0 < r) : wqL (2 * u) (2 * r) ≤ wqH u r ∧ wqL u r ≤ wqH (2 * u) (2 * r) := by
  have p := wq_of u0 r0
  have q := wq_of (show 0 ≤ 2 * u by omega) (show 0 ≤ 2 * r by omega)
  have l := q.lo
  have h := q.hi
  rw [Int.mul_assoc, Int.mul_assoc] at l h
  constructor
  · by_cases c : wqL (2 * u) (2 * r) ≤ wqH u r
    · exact c
    · exact (apart u0 r0 ur p.h0 (show wqH u r < wqL (2 * u) (2 * r) by omega) q.l1 p.hi (by omega)).elim
  · by_cases c : wqL u r ≤ wqH (2 * u) (2 * r)
    · exact c
    · exact (apart u0 r0 ur q.h0 (show wqH (2 * u) (2 * r) < wqL u r by omega) p.l1 (by omega) p.lo).elim
/-- Straight on, up, and between both. -/
theorem wq_zero {r : Int} (r0 : 0 < r) : wqL 0 r = 0 := by
  have p := wq_of (u := 0) (r := r) (by decide) (by omega)
  by_cases c : wqL 0 r = 0
  · exact c
  · have l := p.lo
    have s := si_strict (a := 0) (b := wqL 0 r) (by decide) (by have := p.l0; omega) p.l1
    have e : (2 : Int) * 0 = 0 := by decide
    rw [e, ex0.1] at s
    have := Int.mul_lt_mul_of_pos_left s r0
    omega
theorem wq_quart {u : Int} (u0 : 0 < u) : wqH u 0 = 32400000 := by
  have p := wq_of (u := u) (r := 0) (by omega) (by decide)
  by_cases c : wqH u 0 = 32400000
  · exact c
  · have l := p.hi
    rw [(cos_at (wqH u 0)).2] at l
    have s := si_strict (a := 0) (b := 32400000 - wqH u 0) (by decide) (by have := p.h1; omega) (by have := p.h0; omega)
    have e : (2 : Int) * 0 = 0 := by decide
    rw [e, ex0.1] at s
    have := Int.mul_lt_mul_of_pos_left s u0
    omega
theorem wq_eighth {n : Int} (n0 : 0 < n) : wqL n n ≤ 16200000 ∧ 16200000 ≤ wqH n n := by
  have p := wq_of (u := n) (r := n) (by omega) (by omega)
  constructor
  · by_cases c : wqL n n ≤ 16200000
    · exact c
    · have l := p.lo
      rw [(cos_at (wqL n n)).1] at l
      have s := si_strict (a := 32400000 - wqL n n) (b := wqL n n) (by have := p.l1; omega) (by omega) p.l1
      have := Int.mul_lt_mul_of_pos_left s n0
      omega
  · by_cases c : 16200000 ≤ wqH n n
    · exact c
    · have l := p.hi
      rw [(cos_at (wqH n n)).2] at l
      have s := si_strict (a := wqH n n) (b := 32400000 - wqH n n) (by have := p.h0; omega) (by omega) (by have := p.h0; omega)
      have := Int.mul_lt_mul_of_pos_left s n0
      omega
end SI
end Go.Proofs.Ytfdkpcejjcifgal
