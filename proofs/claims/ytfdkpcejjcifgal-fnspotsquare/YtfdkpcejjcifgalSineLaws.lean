/-
  What the laws of chapter 12 need of sines, cosines, tangents and arcs. No Go text in sight.
-/
import Derived.Test.YtfdkpcejjcifgalSineMul
namespace Go.Proofs.Ytfdkpcejjcifgal
namespace SI
set_option linter.unusedVariables false
open TS (mul_le sq_nonneg ev neg ab ab_bd q c s xx)
/-! ### sines that are exact -/
theorem ex0 : siL 0 = 0 ∧ siH 0 = 0 := by decide +kernel
theorem ex1 : siL 21600000 = 500000000 ∧ siH 21600000 = 500000000 := by decide +kernel
theorem ex2 : siL 43200000 < siH 43200000 := by decide +kernel
theorem ex3 : siL 64800000 = 1000000000 ∧ siH 64800000 = 1000000000 := by decide +kernel
theorem ex4 : siL 86400000 < siH 86400000 := by decide +kernel
theorem ex5 : siL 108000000 = 500000000 ∧ siH 108000000 = 500000000 := by decide +kernel
theorem ex6 : siL 129600000 = 0 ∧ siH 129600000 = 0 := by decide +kernel
theorem ex7 : siL 151200000 = -500000000 ∧ siH 151200000 = -500000000 := by decide +kernel
theorem ex8 : siL 172800000 < siH 172800000 := by decide +kernel
theorem ex9 : siL 194400000 = -1000000000 ∧ siH 194400000 = -1000000000 := by decide +kernel
theorem ex10 : siL 216000000 < siH 216000000 := by decide +kernel
theorem ex11 : siL 237600000 = -500000000 ∧ siH 237600000 = -500000000 := by decide +kernel
/-! ### how far a product of spans can be from the true one -/
theorem far_corner {a b v w : Rat} (hv : v ≤ 1 ∧ -1 ≤ v) (hw : w ≤ 1 ∧ -1 ≤ w) (a1 : a ≤ 1000000000 * v + 65) (a2 : 1000000000 * v ≤ a + 65) (b1 : b ≤ 1000000000 * w + 65) (b2 : 1000000000 * w ≤ b + 65) :
    a * b ≤ 1000000000 * 1000000000 * (v * w) + 131 * 1000000000 ∧ 1000000000 * 1000000000 * (v * w) ≤ a * b + 131 * 1000000000 := by
  obtain ⟨f, hf⟩ : ∃ f, a = 1000000000 * v + 65 * f := ⟨(a - 1000000000 * v) * (1 / 65), by grind⟩
  obtain ⟨g, hg⟩ : ∃ g, b = 1000000000 * w + 65 * g := ⟨(b - 1000000000 * w) * (1 / 65), by grind⟩
  have f1 : f ≤ 1 := by grind
  have f2 : -1 ≤ f := by grind
  have g1 : g ≤ 1 := by grind
  have g2 : -1 ≤ g := by grind
  have nf := near_mul (x := f) (y := 0) (d := 1) (z := w) ⟨by grind, by grind⟩ hw.1 hw.2 (by decide)
  have ng := near_mul (x := g) (y := 0) (d := 1) (z := v) ⟨by grind, by grind⟩ hv.1 hv.2 (by decide)
  have fg := near_mul (x := f) (y := 0) (d := 1) (z := g) ⟨by grind, by grind⟩ g1 g2 (by decide)
  unfold near at *
  have e : a * b = 1000000000 * 1000000000 * (v * w) + 65 * 1000000000 * (f * w) + 65 * 1000000000 * (g * v) + 65 * 65 * (f * g) := by rw [hf, hg]; grind
  rw [e]
  clear e hf hg a1 a2 b1 b2
  generalize f * w = t1 at *
  generalize g * v = t2 at *
  generalize f * g = t3 at *
  generalize v * w = t4 at *
  constructor <;> grind
theorem ends_near {L H : Int} {v d : Rat} (h : In L H v d) (f : Fit L H) (d0 : 0 ≤ d) (d1 : d ≤ 1 / 10) : ((L : Rat) ≤ 1000000000 * v + 65 ∧ 1000000000 * v ≤ (L : Rat) + 65) ∧ ((H : Rat) ≤ 1000000000 * v + 65 ∧ 1000000000 * v ≤ (H : Rat) + 65) := by
  have l := h.lo
  have u := h.hi
  have wd := cast_ge f.d
  rw [cast_add] at wd
  have c64 : ((64 : Int) : Rat) = 64 := rfl
  rw [c64] at wd
  have lh := cast_ge f.b
  refine ⟨⟨?_, ?_⟩, ?_, ?_⟩ <;> grind
theorem mul_lim {L H M K : Int} {v w d : Rat} (h1 : In L H v d) (h2 : In M K w d) (f : Fit L H) (g : Fit M K) (hv : v ≤ 1 ∧ -1 ≤ v) (hw : w ≤ 1 ∧ -1 ≤ w) (d0 : 0 ≤ d) (d1 : d ≤ 1 / 10) :
    (SM.mulHi L H M K : Rat) ≤ 1000000000 * (v * w) + 132 ∧ 1000000000 * (v * w) ≤ (SM.mulLo L H M K : Rat) + 132 := by
  obtain ⟨⟨l1, l2⟩, l3, l4⟩ := ends_near h1 f d0 d1
  obtain ⟨⟨m1, m2⟩, m3, m4⟩ := ends_near h2 g d0 d1
  have p1 := far_corner hv hw l1 l2 m1 m2
  have p2 := far_corner hv hw l1 l2 m3 m4
  have p3 := far_corner hv hw l3 l4 m1 m2
  have p4 := far_corner hv hw l3 l4 m3 m4
  have q1 := down_ge (L * M)
  have q2 := down_ge (L * K)
  have q3 := down_ge (H * M)
  have q4 := down_ge (H * K)
  have u1 := up_le (L * M)
  have u2 := up_le (L * K)
  have u3 := up_le (H * M)
  have u4 := up_le (H * K)
  rw [cast_mul] at q1 q2 q3 q4 u1 u2 u3 u4
  generalize v * w = t at *
  have hi : ∀ a b e f : Int, (a : Rat) ≤ 1000000000 * t + 132 → (b : Rat) ≤ 1000000000 * t + 132 → (e : Rat) ≤ 1000000000 * t + 132 → (f : Rat) ≤ 1000000000 * t + 132 → ((max (max a b) (max e f) : Int) : Rat) ≤ 1000000000 * t + 132 := fun a b e f ha hb he hf => by
    rcases (show max (max a b) (max e f) = a ∨ max (max a b) (max e f) = b ∨ max (max a b) (max e f) = e ∨ max (max a b) (max e f) = f by omega) with h | h | h | h <;> rw [h] <;> assumption
  have lo : ∀ a b e f : Int, 1000000000 * t ≤ (a : Rat) + 132 → 1000000000 * t ≤ (b : Rat) + 132 → 1000000000 * t ≤ (e : Rat) + 132 → 1000000000 * t ≤ (f : Rat) + 132 → 1000000000 * t ≤ ((min (min a b) (min e f) : Int) : Rat) + 132 := fun a b e f ha hb he hf => by
    rcases (show min (min a b) (min e f) = a ∨ min (min a b) (min e f) = b ∨ min (min a b) (min e f) = e ∨ min (min a b) (min e f) = f by omega) with h | h | h | h <;> rw [h] <;> assumption
  constructor
  · exact hi _ _ _ _ (by grind) (by grind) (by grind) (by grind)
  · exact lo _ _ _ _ (by grind) (by grind) (by grind) (by grind)
/-- Integers that are nearly in order are. -/
theorem le_of_near {a b : Int} {e : Rat} (h : (a : Rat) ≤ (b : Rat) + e) (he : e < 1) : a ≤ b := by
  by_cases g : a ≤ b
  · exact g
  · have := cast_ge (show b + 1 ≤ a by omega)
    rw [cast_add] at this
    have c1 : ((1 : Int) : Rat) = 1 := rfl
    rw [c1] at this
    exfalso
    grind
/-! ### both squares -/
theorem squares (h : Int) : SM.mulB (siL h) (siH h) (siL h) (siH h) = true ∧ SM.mulB (siL (h + 64800000)) (siH (h + 64800000)) (siL (h + 64800000)) (siH (h + 64800000)) = true ∧
    SM.addB (SM.mulLo (siL h) (siH h) (siL h) (siH h)) (SM.mulHi (siL h) (siH h) (siL h) (siH h)) (SM.mulLo (siL (h + 64800000)) (siH (h + 64800000)) (siL (h + 64800000)) (siH (h + 64800000))) (SM.mulHi (siL (h + 64800000)) (siH (h + 64800000)) (siL (h + 64800000)) (siH (h + 64800000))) = true ∧
    SM.hasB (SM.mulLo (siL h) (siH h) (siL h) (siH h) + SM.mulLo (siL (h + 64800000)) (siH (h + 64800000)) (siL (h + 64800000)) (siH (h + 64800000))) (SM.mulHi (siL h) (siH h) (siL h) (siH h) + SM.mulHi (siL (h + 64800000)) (siH (h + 64800000)) (siL (h + 64800000)) (siH (h + 64800000))) 1 1 = true := by
  obtain ⟨i1, f1⟩ := si_enc h
  obtain ⟨i2, f2⟩ := ci_enc h
  replace i1 := i1.wide (d' := 1 / 15) (by grind)
  have sv := S_bd h
  have cv := C_bd h
  have e1 := mul_enc i1 i1 f1.b f1.b sv sv (by grind) (by grind)
  have e2 := mul_enc i2 i2 f2.b f2.b cv cv (by grind) (by grind)
  have m1 := mul_lim i1 i1 f1 f1 sv sv (by grind) (by grind)
  have m2 := mul_lim i2 i2 f2 f2 cv cv (by grind) (by grind)
  have n1 := mul_fit f1 f1
  have n2 := mul_fit f2 f2
  have l := SC_len h
  have o1 : SM.okS (siL h) (siH h) = true := SM.okS_mk ⟨by have := f1.a; omega, f1.b, by have := f1.c; omega⟩
  have o2 : SM.okS (siL (h + 64800000)) (siH (h + 64800000)) = true := SM.okS_mk ⟨by have := f2.a; omega, f2.b, by have := f2.c; omega⟩
  have g1 : SM.mulB (siL h) (siH h) (siL h) (siH h) = true := by unfold SM.mulB; rw [SM.both_mk o1 o1, SM.okS_mk (by omega)]; rfl
  have g2 : SM.mulB (siL (h + 64800000)) (siH (h + 64800000)) (siL (h + 64800000)) (siH (h + 64800000)) = true := by unfold SM.mulB; rw [SM.both_mk o2 o2, SM.okS_mk (by omega)]; rfl
  refine ⟨g1, g2, ?_⟩
  have p1 := (SM.mul_of g1).2.2
  have p2 := (SM.mul_of g2).2.2
  clear g1 g2 o1 o2 i1 i2 f1 f2 sv cv
  generalize SM.mulLo (siL h) (siH h) (siL h) (siH h) = a1 at *
  generalize SM.mulHi (siL h) (siH h) (siL h) (siH h) = b1 at *
  generalize SM.mulLo (siL (h + 64800000)) (siH (h + 64800000)) (siL (h + 64800000)) (siH (h + 64800000)) = a2 at *
  generalize SM.mulHi (siL (h + 64800000)) (siH (h + 64800000)) (siL (h + 64800000)) (siH (h + 64800000)) = b2 at *
  generalize S h * S h = x at *
  generalize C h * C h = y at *
  have c9 : ((1000000000 : Int) : Rat) = 1000000000 := rfl
  have c8 : ((1000000264 : Int) : Rat) = 1000000264 := rfl
  have c7 : ((999999736 : Int) : Rat) = 999999736 := rfl
  have k1 : a1 + a2 ≤ 1000000000 := le_of_near (e := 2 / 5) (by rw [cast_add, c9]; grind) (by grind)
  have k2 : 1000000000 ≤ b1 + b2 := le_of_near (e := 2 / 5) (by rw [cast_add, c9]; grind) (by grind)
  have k3 : b1 + b2 ≤ 1000000264 := le_of_near (e := 0) (by rw [cast_add, c8]; grind) (by grind)
  have k4 : 999999736 ≤ a1 + a2 := le_of_near (e := 0) (by rw [cast_add, c7]; grind) (by grind)
  have ok : SM.okS (a1 + a2) (b1 + b2) = true := SM.okS_mk ⟨by omega, by omega, by omega⟩
  exact ⟨SM.add_mk p1 p2 ok, SM.has_mk ok (by decide) (by omega) (by omega)⟩
/-! ### sums of angles -/
theorem okSi (h : Int) : SM.okS (siL h) (siH h) = true := by
  obtain ⟨_, f⟩ := si_enc h
  exact SM.okS_mk ⟨by have := f.a; omega, f.b, by have := f.c; omega⟩
theorem okMul (h g : Int) : SM.mulB (siL h) (siH h) (siL g) (siH g) = true := by
  have n := mul_fit (si_enc h).2 (si_enc g).2
  unfold SM.mulB
  rw [SM.both_mk (okSi h) (okSi g), SM.okS_mk (by omega)]
  rfl
theorem sine_sum (a b : Int) : SM.mulLo (siL a) (siH a) (siL (b + 64800000)) (siH (b + 64800000)) + SM.mulLo (siL (a + 64800000)) (siH (a + 64800000)) (siL b) (siH b) ≤ siH (a + b) ∧
    siL (a + b) ≤ SM.mulHi (siL a) (siH a) (siL (b + 64800000)) (siH (b + 64800000)) + SM.mulHi (siL (a + 64800000)) (siH (a + 64800000)) (siL b) (siH b) := by
  obtain ⟨i1, f1⟩ := si_enc a
  obtain ⟨i2, f2⟩ := ci_enc a
  obtain ⟨i3, f3⟩ := si_enc b
  obtain ⟨i4, f4⟩ := ci_enc b
  obtain ⟨⟨l, u⟩, _⟩ := si_enc (a + b)
  obtain ⟨⟨n1, n2⟩, _⟩ := SC_add a b
  have e1 := mul_enc (i1.wide (d' := 1 / 15) (by grind)) i4 f1.b f4.b (S_bd a) (C_bd b) (by grind) (by grind)
  have e2 := mul_enc i2 (i3.wide (d' := 1 / 15) (by grind)) f2.b f3.b (C_bd a) (S_bd b) (by grind) (by grind)
  clear i1 i2 i3 i4 f1 f2 f3 f4
  unfold eps at n1 n2
  generalize S a * C b = x at *
  generalize C a * S b = y at *
  generalize S (a + b) = z at *
  constructor
  · exact le_of_near (e := 1 / 2) (by rw [cast_add]; grind) (by grind)
  · exact le_of_near (e := 1 / 2) (by rw [cast_add]; grind) (by grind)
theorem cos_sum (a b : Int) : SM.mulLo (siL (a + 64800000)) (siH (a + 64800000)) (siL (b + 64800000)) (siH (b + 64800000)) - SM.mulHi (siL a) (siH a) (siL b) (siH b) ≤ siH (a + b + 64800000) ∧
    siL (a + b + 64800000) ≤ SM.mulHi (siL (a + 64800000)) (siH (a + 64800000)) (siL (b + 64800000)) (siH (b + 64800000)) - SM.mulLo (siL a) (siH a) (siL b) (siH b) := by
  obtain ⟨i1, f1⟩ := si_enc a
  obtain ⟨i2, f2⟩ := ci_enc a
  obtain ⟨i3, f3⟩ := si_enc b
  obtain ⟨i4, f4⟩ := ci_enc b
  obtain ⟨⟨l, u⟩, _⟩ := ci_enc (a + b)
  obtain ⟨_, n1, n2⟩ := SC_add a b
  have e1 := mul_enc i2 i4 f2.b f4.b (C_bd a) (C_bd b) (by grind) (by grind)
  have e2 := mul_enc (i1.wide (d' := 1 / 15) (by grind)) (i3.wide (d' := 1 / 15) (by grind)) f1.b f3.b (S_bd a) (S_bd b) (by grind) (by grind)
  clear i1 i2 i3 i4 f1 f2 f3 f4
  unfold eps at n1 n2
  generalize C a * C b = x at *
  generalize S a * S b = y at *
  generalize C (a + b) = z at *
  constructor
  · exact le_of_near (e := 1 / 2) (by rw [cast_sub]; grind) (by grind)
  · exact le_of_near (e := 1 / 2) (by rw [cast_sub]; grind) (by grind)
/-! ### half an angle -/
theorem half_meet (a : Int) : SM.mulLo (siL a) (siH a) (siL a) (siH a) ≤ NM.up (1000000000 - siL (2 * a + 64800000)) 2 ∧ NM.down (1000000000 - siH (2 * a + 64800000)) 2 ≤ SM.mulHi (siL a) (siH a) (siL a) (siH a) := by
  obtain ⟨i1, f1⟩ := si_enc a
  obtain ⟨⟨l, u⟩, _⟩ := ci_enc (a + a)
  obtain ⟨_, n1, n2⟩ := SC_add a a
  have k : 2 * a = a + a := by omega
  rw [k]
  have e1 := mul_enc i1 i1 f1.b f1.b (S_bd a) (S_bd a) (by grind) (by grind)
  have ln := SC_len a
  obtain ⟨u1, u2⟩ := up_bd (1000000000 - siL (a + a + 64800000)) (m := 2) (by decide)
  obtain ⟨d1, d2⟩ := down_bd (1000000000 - siH (a + a + 64800000)) (m := 2) (by decide)
  rw [cast_sub] at u1 u2 d1 d2
  have c9 : ((1000000000 : Int) : Rat) = 1000000000 := rfl
  have c2 : ((2 : Int) : Rat) = 2 := rfl
  rw [c9, c2] at u1 u2 d1 d2
  clear i1 f1 k
  unfold eps at n1 n2
  generalize C a * C a = x at *
  generalize S a * S a = y at *
  generalize C (a + a) = z at *
  constructor
  · exact le_of_near (e := 1 / 2) (by grind) (by grind)
  · exact le_of_near (e := 1 / 2) (by grind) (by grind)
/-! ### greater angles -/
theorem c_low {N : Nat} (hN : N = 64800000) {M : Nat} (h : M ≤ N + N) : -(3 * eps) ≤ c M := by
  have xq : ∀ n : Nat, n ≤ N → xx n ≤ 1 := fun n hn => by
    have h1 : xx N ≤ 1 := by subst hN; decide +kernel
    have h2 := TS.cast_le hn
    have h3 := mul_le h2 (x := q) (by have := TS.q_pos; grind)
    unfold xx at *
    grind
  have ez := eps0
  by_cases k : M ≤ N
  · have h1 := c_ge M (xq M k)
    have h2 := pcos7_mono (a := xx M) (b := 1) (xx_nn M) (xq M k) (by grind)
    have h3 : (0 : Rat) ≤ pcos 7 1 - tiny := by decide +kernel
    grind
  · have hl := lack_q hN (m := M) (k := N + N - M) (by omega)
    obtain ⟨_, g1, g2⟩ := hl
    have h1 := s_ge (N + N - M) (xq _ (by omega))
    have h2 := psin7_mono (a := 0) (b := xx (N + N - M)) (by grind) (xx_nn _) (xq _ (by omega))
    rw [psin_zero] at h2
    have h3 : tiny ≤ eps := by decide +kernel
    grind
theorem s_grow {N : Nat} (hN : N = 64800000) {a b : Nat} (h : a ≤ b) (hb : b + b ≤ N + N) : s (2 * a) ≤ s (2 * b) + 6 * eps := by
  have e1 := (TS.add (a + b) (b - a)).1
  have e2 := (TS.add (2 * a) (b - a)).1
  have e3 := (@lack (2 * a) (b - a)).1
  have q1 : a + b + (b - a) = 2 * b := by omega
  have q2 : 2 * a + (b - a) = a + b := by omega
  rw [q1] at e1
  rw [q2] at e3
  have cl := c_low hN (M := a + b) (by omega)
  have sb := s_bd (b - a)
  have sn : -(3 * eps) ≤ s (b - a) := by
    have xq : xx (b - a) ≤ 1 := by
      have h1 : xx N ≤ 1 := by subst hN; decide +kernel
      have h2 := TS.cast_le (show b - a ≤ N by omega)
      have h3 := mul_le h2 (x := q) (by have := TS.q_pos; grind)
      unfold xx at *
      grind
    have h1 := s_ge (b - a) xq
    have h2 := psin7_mono (a := 0) (b := xx (b - a)) (by grind) (xx_nn _) xq
    rw [psin_zero] at h2
    have h3 : tiny ≤ eps := by decide +kernel
    have := eps0
    grind
  have cb := c_bd (a + b)
  have ez := eps0
  have e1' : eps ≤ 1 / 1000 := by decide +kernel
  have key : -(3 * eps) ≤ c (a + b) * s (b - a) := by
    rcases Rat.le_total (a := 0) (b := s (b - a)) with g | g
    · have := mul_le cl g
      have h2 := mul_le sb.1 (x := 3 * eps) (by grind)
      grind
    · have := mul_le cb.1 (x := -s (b - a)) (by grind)
      grind
  clear q1 q2 hN e2
  generalize c (a + b) * s (b - a) = t at *
  rw [e1, e3]
  grind
theorem si_more0 {a b : Int} (h0 : 0 ≤ a) (h : a ≤ b) (h1 : b ≤ 64800000) : siL a ≤ siH b := by
  obtain ⟨N, hN⟩ : ∃ N : Nat, N = 64800000 := ⟨_, rfl⟩
  obtain ⟨i1, _⟩ := si_enc a
  obtain ⟨i2, _⟩ := si_enc b
  have l := i1.lo
  have u := i2.hi
  have g := s_grow hN (a := a.toNat) (b := b.toNat) (by omega) (by omega)
  have ea : a % 259200000 = a := by omega
  have eb : b % 259200000 = b := by omega
  unfold S at l u
  rw [ea] at l
  rw [eb] at u
  unfold eps at g
  clear hN i1 i2
  generalize s (2 * a.toNat) = x at *
  generalize s (2 * b.toNat) = y at *
  exact le_of_near (e := 1 / 2) (by grind) (by grind)
theorem siH_nn {b : Int} (h0 : 0 ≤ b) (h1 : b ≤ 64800000) : 0 ≤ siH b := by
  obtain ⟨_, f, n⟩ := ha_enc (h := b) h0 (by omega)
  have e : b % 259200000 = b := by omega
  unfold siH
  rw [e, if_neg (by omega)]
  have := f.b
  omega
theorem si_more {a b : Int} (h0 : -64800000 ≤ a) (h : a ≤ b) (h1 : b ≤ 64800000) : siL a ≤ siH b ∧ siH a < siL b + 1000 := by
  have k : siL a ≤ siH b := by
    rcases Int.lt_or_le a 0 with c1 | c1
    · obtain ⟨e1, _⟩ := si_neg (-a)
      rw [Int.neg_neg] at e1
      rcases Int.lt_or_le b 0 with c2 | c2
      · obtain ⟨_, e2⟩ := si_neg (-b)
        rw [Int.neg_neg] at e2
        have := si_more0 (a := -b) (b := -a) (by omega) (by omega) (by omega)
        omega
      · have n1 := siH_nn (b := -a) (by omega) (by omega)
        have n2 := siH_nn c2 h1
        omega
    · exact si_more0 c1 h h1
  have f1 := (si_enc a).2.d
  have f2 := (si_enc b).2.d
  exact ⟨k, by omega⟩
/-! ### tangents -/
theorem qd_both (a b : Int) : SM.qd (-a) (-b) = SM.qd a b := by
  unfold SM.qd
  rcases Int.lt_trichotomy b 0 with h | h | h
  · rw [if_pos h, if_neg (by omega)]
  · subst h
    rw [if_neg (by decide), if_neg (by decide)]
    unfold NM.down
    simp
  · rw [if_pos (show -b < 0 by omega), if_neg (show ¬ b < 0 by omega), Int.neg_neg, Int.neg_neg]
theorem qu_both (a b : Int) : SM.qu (-a) (-b) = SM.qu a b := by
  unfold SM.qu
  rcases Int.lt_trichotomy b 0 with h | h | h
  · rw [if_pos h, if_neg (by omega)]
  · subst h
    rw [if_neg (by decide), if_neg (by decide)]
    unfold NM.up
    simp
  · rw [if_pos (show -b < 0 by omega), if_neg (show ¬ b < 0 by omega), Int.neg_neg, Int.neg_neg]
theorem divLo_both (sl sh tl th : Int) : SM.divLo (-sh) (-sl) (-th) (-tl) = SM.divLo sl sh tl th := by
  unfold SM.divLo
  rw [qd_both, qd_both, qd_both, qd_both]
  omega
theorem divHi_both (sl sh tl th : Int) : SM.divHi (-sh) (-sl) (-th) (-tl) = SM.divHi sl sh tl th := by
  unfold SM.divHi
  rw [qu_both, qu_both, qu_both, qu_both]
  omega
theorem okS_negEq (l h : Int) : SM.okS (-h) (-l) = SM.okS l h := by
  unfold SM.okS
  exact decide_eq_decide.2 (by omega)
theorem apart_negEq (l h : Int) : SM.apartB (-h) (-l) = SM.apartB l h := by
  refine SM.bool_eq (fun k => SM.apart_mk ?_) (fun k => SM.apart_mk ?_)
  · have := SM.apart_of k; omega
  · have := SM.apart_of k; omega
theorem divB_both (sl sh tl th : Int) : SM.divB (-sh) (-sl) (-th) (-tl) = SM.divB sl sh tl th := by
  unfold SM.divB SM.bothB
  rw [divLo_both, divHi_both, okS_negEq, okS_negEq, apart_negEq]
theorem divB_negEq {sl sh tl th : Int} (h : SM.divB sl sh tl th = true) : SM.divB (-sh) (-sl) tl th = true := SM.div_turn h
/-- A tangent times the cosine, and the sine. -/
theorem tan_meet {sl sh tl th : Int} (h : SM.divB sl sh tl th = true) (g : SM.mulB (SM.divLo sl sh tl th) (SM.divHi sl sh tl th) tl th = true) (lh : sl ≤ sh) :
    SM.mulLo (SM.divLo sl sh tl th) (SM.divHi sl sh tl th) tl th ≤ sh ∧ sl ≤ SM.mulHi (SM.divLo sl sh tl th) (SM.divHi sl sh tl th) tl th := by
  have := SM.within_of (SM.div_back h g)
  omega
/-! ### arcs -/
theorem psin_le (J : Nat) {y : Rat} (y0 : 0 ≤ y) (y1 : y ≤ 1) : psin J y ≤ y := by
  have h := al_lst y J 1 1 2
  have r0 := sq_nonneg y
  have r1 : y * y ≤ 1 := by have := mul_le y1 y0; grind
  have b := (al_bd r0 r1 J (1 * y ^ 1) 2 (by rw [Rat.pow_succ, Rat.pow_zero]; grind) (by decide)).2
  unfold psin
  rw [← h]
  have e : (1 : Rat) * y ^ 1 = y := by rw [Rat.pow_succ, Rat.pow_zero]; grind
  rw [e] at b ⊢
  exact b
theorem xx_arc {h : Int} (h0 : 0 ≤ h) (h1 : h ≤ 32400000) : xx (2 * h.toNat) ≤ 785398164 / 1000000000 := by
  obtain ⟨_, a, b, _⟩ := arc_bd h0 h1
  have c1 : xx (2 * (32400000 : Int).toNat) ≤ 785398164 / 1000000000 := by decide +kernel
  have h2 := TS.cast_le (show 2 * h.toNat ≤ 2 * (32400000 : Int).toNat by omega)
  have h3 := mul_le h2 (x := q) (by have := TS.q_pos; grind)
  unfold xx at *
  grind
/-- The sine of an arc is not above it. -/
theorem sine_arc {h : Int} (h0 : 0 ≤ h) (h1 : h ≤ 32400000) : siL h ≤ aH h := by
  obtain ⟨i, _⟩ := si_enc h
  have l := i.lo
  have e : h % 259200000 = h := by omega
  unfold S at l
  rw [e] at l
  have x1 := xx_arc h0 h1
  have x0 := xx_nn (2 * h.toNat)
  have s1 := s_le (2 * h.toNat) (by grind)
  have p1 := psin_le 8 x0 (by grind)
  have ar := (arc_x (h := h) h0).2
  have tn : tiny ≤ 1 / 1000000000000 := by decide +kernel
  generalize s (2 * h.toNat) = v at *
  generalize xx (2 * h.toNat) = y at *
  exact le_of_near (e := 1 / 2) (by grind) (by grind)
end SI
end Go.Proofs.Ytfdkpcejjcifgal
