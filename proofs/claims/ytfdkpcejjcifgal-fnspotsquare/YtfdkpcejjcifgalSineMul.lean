/-
  Sines turned about, a turn more; the true ones of sums; products of their spans. No Go text in sight.
-/
import Derived.Test.YtfdkpcejjcifgalSineSpan
import Derived.Test.YtfdkpcejjcifgalSpanMath
namespace Go.Proofs.Ytfdkpcejjcifgal
namespace SI
set_option linter.unusedVariables false
open TS (mul_le sq_nonneg ev neg ab ab_bd q c s xx)
/-! ### turned about, a turn more, half a turn more -/
theorem si_turn (h : Int) : siL (h + 259200000) = siL h ∧ siH (h + 259200000) = siH h := by
  have e : (h + 259200000) % 259200000 = h % 259200000 := by omega
  unfold siL siH
  rw [e]
  exact ⟨rfl, rfl⟩
theorem qu0 : quL 0 = 0 ∧ quH 0 = 0 := ⟨rfl, rfl⟩
theorem ha_sym {h : Int} (h0 : 0 ≤ h) (h1 : h ≤ 129600000) : haL (129600000 - h) = haL h ∧ haH (129600000 - h) = haH h := by
  unfold haL haH
  by_cases z : 64800000 < h
  · rw [if_pos z, if_pos z, if_neg (by omega), if_neg (by omega)]
    exact ⟨rfl, rfl⟩
  · rw [if_neg z, if_neg z]
    by_cases z2 : h = 64800000
    · subst z2
      exact ⟨rfl, rfl⟩
    · rw [if_pos (by omega), if_pos (by omega)]
      have : 129600000 - (129600000 - h) = h := by omega
      rw [this]
      exact ⟨rfl, rfl⟩
theorem ha0 : haL 0 = 0 ∧ haH 0 = 0 := ⟨rfl, rfl⟩
theorem ha9 : haL 129600000 = 0 ∧ haH 129600000 = 0 := ⟨rfl, rfl⟩
theorem si_half (h : Int) : siL (h + 129600000) = -siH h ∧ siH (h + 129600000) = -siL h := by
  have b0 : 0 ≤ h % 259200000 := Int.emod_nonneg _ (by decide)
  have b1 : h % 259200000 < 259200000 := Int.emod_lt_of_pos _ (by decide)
  unfold siL siH
  by_cases z : 129600000 ≤ h % 259200000
  · have e : (h + 129600000) % 259200000 = h % 259200000 - 129600000 := by omega
    rw [e, if_pos z, if_pos z, if_neg (by omega), if_neg (by omega)]
    omega
  · have e : (h + 129600000) % 259200000 = h % 259200000 + 129600000 := by omega
    rw [e, if_neg z, if_neg z, if_pos (by omega), if_pos (by omega)]
    have : h % 259200000 + 129600000 - 129600000 = h % 259200000 := by omega
    rw [this]
    omega
theorem si_neg (h : Int) : siL (-h) = -siH h ∧ siH (-h) = -siL h := by
  have b0 : 0 ≤ h % 259200000 := Int.emod_nonneg _ (by decide)
  have b1 : h % 259200000 < 259200000 := Int.emod_lt_of_pos _ (by decide)
  unfold siL siH
  by_cases z0 : h % 259200000 = 0
  · have e : (-h) % 259200000 = 0 := by omega
    rw [e, z0]
    obtain ⟨a, b⟩ := ha0
    rw [if_neg (by decide), if_neg (by decide), a, b]
    decide
  · have e : (-h) % 259200000 = 259200000 - h % 259200000 := by omega
    rw [e]
    generalize h % 259200000 = g at *
    by_cases z : 129600000 ≤ g
    · rw [if_pos z, if_pos z]
      by_cases z2 : g = 129600000
      · subst z2
        rw [if_pos (by decide), if_pos (by decide)]
        obtain ⟨a, b⟩ := ha0
        have e2 : (259200000 : Int) - 129600000 - 129600000 = 0 := by decide
        have e3 : (129600000 : Int) - 129600000 = 0 := by decide
        rw [e2, e3, a, b]
        decide
      · rw [if_neg (by omega), if_neg (by omega)]
        obtain ⟨a, b⟩ := ha_sym (h := g - 129600000) (by omega) (by omega)
        have e2 : 129600000 - (g - 129600000) = 259200000 - g := by omega
        rw [e2] at a b
        rw [a, b]
        omega
    · rw [if_neg z, if_neg z, if_pos (by omega), if_pos (by omega)]
      obtain ⟨a, b⟩ := ha_sym (h := g) (by omega) (by omega)
      have e2 : 259200000 - g - 129600000 = 129600000 - g := by omega
      rw [e2, a, b]
      exact ⟨rfl, rfl⟩
theorem si_lack (h : Int) : siL (129600000 - h) = siL h ∧ siH (129600000 - h) = siH h := by
  obtain ⟨a, b⟩ := si_half (-h)
  obtain ⟨d, e⟩ := si_neg h
  have k : -h + 129600000 = 129600000 - h := by omega
  rw [k] at a b
  omega
/-- A cosine turned about is the same. -/
theorem si_cos (h : Int) : siL (-h + 64800000) = siL (h + 64800000) ∧ siH (-h + 64800000) = siH (h + 64800000) := by
  have := si_lack (h + 64800000)
  have k : 129600000 - (h + 64800000) = -h + 64800000 := by omega
  rw [k] at this
  exact this
/-! ### the true ones -/
theorem SC_len (h : Int) : C h * C h + S h * S h = 1 := TS.len _
theorem S_bd (h : Int) : S h ≤ 1 ∧ -1 ≤ S h := s_bd _
theorem C_bd (h : Int) : C h ≤ 1 ∧ -1 ≤ C h := c_bd _
theorem SC_add (a b : Int) : near (S (a + b)) (S a * C b + C a * S b) (8 * eps) ∧ near (C (a + b)) (C a * C b - S a * S b) (8 * eps) := by
  obtain ⟨N, hN⟩ : ∃ N : Nat, N = 64800000 := ⟨_, rfl⟩
  have a0 : 0 ≤ a % 259200000 := Int.emod_nonneg _ (by decide)
  have a1 : a % 259200000 < 259200000 := Int.emod_lt_of_pos _ (by decide)
  have b0 : 0 ≤ b % 259200000 := Int.emod_nonneg _ (by decide)
  have b1 : b % 259200000 < 259200000 := Int.emod_lt_of_pos _ (by decide)
  have z := eps0
  unfold S C
  obtain ⟨e1, e2⟩ := TS.add (2 * (a % 259200000).toNat) (2 * (b % 259200000).toNat)
  rw [← e1, ← e2]
  by_cases g : a % 259200000 + b % 259200000 < 259200000
  · have e : 2 * ((a + b) % 259200000).toNat = 2 * (a % 259200000).toNat + 2 * (b % 259200000).toNat := by omega
    rw [e]
    unfold near
    refine ⟨⟨?_, ?_⟩, ?_, ?_⟩ <;> grind
  · obtain ⟨t1, t2⟩ := turn_t hN (2 * ((a + b) % 259200000).toNat)
    have e : 2 * ((a + b) % 259200000).toNat + (N + N) + (N + N) + (N + N) + (N + N) = 2 * (a % 259200000).toNat + 2 * (b % 259200000).toNat := by omega
    rw [e] at t1 t2
    exact ⟨⟨t1.2, t1.1⟩, ⟨t2.2, t2.1⟩⟩
theorem S_quart (h : Int) : near (S (h + 64800000)) (C h) (10 * eps) := by
  obtain ⟨N, hN⟩ : ∃ N : Nat, N = 64800000 := ⟨_, rfl⟩
  have a0 : 0 ≤ h % 259200000 := Int.emod_nonneg _ (by decide)
  have a1 : h % 259200000 < 259200000 := Int.emod_lt_of_pos _ (by decide)
  have z := eps0
  obtain ⟨t1, _⟩ := turn_q hN (2 * (h % 259200000).toNat)
  unfold S C
  by_cases g : h % 259200000 + 64800000 < 259200000
  · have e : 2 * ((h + 64800000) % 259200000).toNat = 2 * (h % 259200000).toNat + (N + N) := by omega
    rw [e]
    unfold near at *
    constructor <;> grind
  · obtain ⟨u1, _⟩ := turn_t hN (2 * ((h + 64800000) % 259200000).toNat)
    have e : 2 * ((h + 64800000) % 259200000).toNat + (N + N) + (N + N) + (N + N) + (N + N) = 2 * (h % 259200000).toNat + (N + N) := by omega
    rw [e] at u1
    unfold near at *
    constructor <;> grind
/-- The span of a cosine has it, nearly. -/
theorem ci_enc (h : Int) : In (siL (h + 64800000)) (siH (h + 64800000)) (C h) (1 / 15) ∧ Fit (siL (h + 64800000)) (siH (h + 64800000)) := by
  obtain ⟨⟨l, u⟩, F⟩ := si_enc (h + 64800000)
  obtain ⟨q1, q2⟩ := S_quart h
  unfold eps at q1 q2
  generalize S (h + 64800000) = v at *
  generalize C h = w at *
  exact ⟨⟨by grind, by grind⟩, F⟩
theorem In.wide {L H : Int} {v d : Rat} (h : In L H v d) {d' : Rat} (hd : d ≤ d') : In L H v d' := ⟨by have := h.lo; grind, by have := h.hi; grind⟩
/-! ### products of spans -/
/-- The least of a box's corners. -/
theorem corner_lo {a b p r x y : Rat} (h1 : a ≤ x) (h2 : x ≤ b) (h3 : p ≤ y) (h4 : y ≤ r) : a * p ≤ x * y ∨ a * r ≤ x * y ∨ b * p ≤ x * y ∨ b * r ≤ x * y := by
  rcases Rat.le_total (a := 0) (b := y) with hy | hy
  · have g := mul_le h1 hy
    rcases Rat.le_total (a := 0) (b := a) with ha | ha
    · have := mul_le h3 ha
      exact Or.inl (by grind)
    · have := mul_le h4 (x := -a) (by grind)
      exact Or.inr (Or.inl (by grind))
  · have g := mul_le h2 (x := -y) (by grind)
    rcases Rat.le_total (a := 0) (b := b) with hb | hb
    · have := mul_le h3 hb
      exact Or.inr (Or.inr (Or.inl (by grind)))
    · have := mul_le h4 (x := -b) (by grind)
      exact Or.inr (Or.inr (Or.inr (by grind)))
theorem corner_hi {a b p r x y : Rat} (h1 : a ≤ x) (h2 : x ≤ b) (h3 : p ≤ y) (h4 : y ≤ r) : x * y ≤ a * p ∨ x * y ≤ a * r ∨ x * y ≤ b * p ∨ x * y ≤ b * r := by
  rcases corner_lo (a := -b) (b := -a) (x := -x) (y := y) (p := p) (r := r) (by grind) (by grind) h3 h4 with h | h | h | h
  · exact Or.inr (Or.inr (Or.inl (by grind)))
  · exact Or.inr (Or.inr (Or.inr (by grind)))
  · exact Or.inl (by grind)
  · exact Or.inr (Or.inl (by grind))
/-- A number nearly in a span, brought in. -/
theorem brought {L H : Int} {v d : Rat} (h : In L H v d) (hl : L ≤ H) (d0 : 0 ≤ d) : ∃ x : Rat, (L : Rat) ≤ x ∧ x ≤ (H : Rat) ∧ x ≤ 1000000000 * v + d ∧ 1000000000 * v ≤ x + d := by
  have l := h.lo
  have u := h.hi
  have lh := cast_ge hl
  rcases Rat.le_total (a := (L : Rat)) (b := 1000000000 * v) with a | a
  · rcases Rat.le_total (a := 1000000000 * v) (b := (H : Rat)) with b | b
    · exact ⟨1000000000 * v, a, b, by grind, by grind⟩
    · exact ⟨H, lh, by grind, by grind, by grind⟩
  · exact ⟨L, by grind, lh, by grind, by grind⟩
theorem down_le (a : Int) : (NM.down a 1000000000 : Rat) * 1000000000 ≤ (a : Rat) := by
  have := (down_bd a (m := 1000000000) (by decide)).1
  rwa [unitc] at this
theorem up_ge (a : Int) : (a : Rat) ≤ (NM.up a 1000000000 : Rat) * 1000000000 := by
  have := (up_bd a (m := 1000000000) (by decide)).1
  rwa [unitc] at this
theorem down_ge (a : Int) : (a : Rat) ≤ (NM.down a 1000000000 : Rat) * 1000000000 + 1000000000 := by
  have := (down_bd a (m := 1000000000) (by decide)).2
  rwa [unitc] at this
theorem up_le (a : Int) : (NM.up a 1000000000 : Rat) * 1000000000 ≤ (a : Rat) + 1000000000 := by
  have := (up_bd a (m := 1000000000) (by decide)).2
  rwa [unitc] at this
/-- The corner's slack: a number of the box, and what it stands for. -/
theorem prod_near {x y v w d : Rat} (hv1 : v ≤ 1) (hv2 : -1 ≤ v) (hw1 : w ≤ 1) (hw2 : -1 ≤ w) (d0 : 0 ≤ d) (d1 : d ≤ 1 / 10) (x1 : x ≤ 1000000000 * v + d) (x2 : 1000000000 * v ≤ x + d) (y1 : y ≤ 1000000000 * w + d) (y2 : 1000000000 * w ≤ y + d) :
    x * y ≤ 1000000000 * 1000000000 * (v * w) + 3 * d * 1000000000 ∧ 1000000000 * 1000000000 * (v * w) ≤ x * y + 3 * d * 1000000000 := by
  obtain ⟨f, hf⟩ : ∃ f, x = 1000000000 * v + f := ⟨x - 1000000000 * v, by grind⟩
  obtain ⟨g, hg⟩ : ∃ g, y = 1000000000 * w + g := ⟨y - 1000000000 * w, by grind⟩
  have nf := near_mul (x := f) (y := 0) (d := d) (z := w) ⟨by grind, by grind⟩ hw1 hw2 d0
  have ng := near_mul (x := g) (y := 0) (d := d) (z := v) ⟨by grind, by grind⟩ hv1 hv2 d0
  have fg := near_mul (x := f) (y := 0) (d := d) (z := g) ⟨by grind, by grind⟩ (by grind) (by grind) d0
  unfold near at *
  have e : x * y = 1000000000 * 1000000000 * (v * w) + 1000000000 * (f * w) + 1000000000 * (g * v) + f * g := by rw [hf, hg]; grind
  rw [e]
  clear e hf hg x1 x2 y1 y2
  generalize f * w = t1 at *
  generalize g * v = t2 at *
  generalize f * g = t3 at *
  generalize v * w = t4 at *
  constructor <;> grind
theorem min4_le {a b c d : Int} {t : Rat} (h : (a : Rat) ≤ t ∨ (b : Rat) ≤ t ∨ (c : Rat) ≤ t ∨ (d : Rat) ≤ t) : ((min (min a b) (min c d) : Int) : Rat) ≤ t := by
  rcases h with h | h | h | h
  · have := cast_ge (show min (min a b) (min c d) ≤ a by omega); grind
  · have := cast_ge (show min (min a b) (min c d) ≤ b by omega); grind
  · have := cast_ge (show min (min a b) (min c d) ≤ c by omega); grind
  · have := cast_ge (show min (min a b) (min c d) ≤ d by omega); grind
theorem max4_ge {a b c d : Int} {t : Rat} (h : t ≤ (a : Rat) ∨ t ≤ (b : Rat) ∨ t ≤ (c : Rat) ∨ t ≤ (d : Rat)) : t ≤ ((max (max a b) (max c d) : Int) : Rat) := by
  rcases h with h | h | h | h
  · have := cast_ge (show a ≤ max (max a b) (max c d) by omega); grind
  · have := cast_ge (show b ≤ max (max a b) (max c d) by omega); grind
  · have := cast_ge (show c ≤ max (max a b) (max c d) by omega); grind
  · have := cast_ge (show d ≤ max (max a b) (max c d) by omega); grind
theorem mul_enc {L H M K : Int} {v w d : Rat} (h1 : In L H v d) (h2 : In M K w d) (l1 : L ≤ H) (l2 : M ≤ K) (hv : v ≤ 1 ∧ -1 ≤ v) (hw : w ≤ 1 ∧ -1 ≤ w) (d0 : 0 ≤ d) (d1 : d ≤ 1 / 10) :
    (SM.mulLo L H M K : Rat) ≤ 1000000000 * (v * w) + 3 * d ∧ 1000000000 * (v * w) ≤ (SM.mulHi L H M K : Rat) + 3 * d := by
  obtain ⟨x, a1, a2, a3, a4⟩ := brought h1 l1 d0
  obtain ⟨y, b1, b2, b3, b4⟩ := brought h2 l2 d0
  obtain ⟨p1, p2⟩ := prod_near hv.1 hv.2 hw.1 hw.2 d0 d1 a3 a4 b3 b4
  have q1 := down_le (L * M)
  have q2 := down_le (L * K)
  have q3 := down_le (H * M)
  have q4 := down_le (H * K)
  have u1 := up_ge (L * M)
  have u2 := up_ge (L * K)
  have u3 := up_ge (H * M)
  have u4 := up_ge (H * K)
  rw [cast_mul] at q1 q2 q3 q4 u1 u2 u3 u4
  constructor
  · refine min4_le ?_
    rcases corner_lo a1 a2 b1 b2 with h | h | h | h
    · exact Or.inl (by grind)
    · exact Or.inr (Or.inl (by grind))
    · exact Or.inr (Or.inr (Or.inl (by grind)))
    · exact Or.inr (Or.inr (Or.inr (by grind)))
  · have : 1000000000 * (v * w) - 3 * d ≤ (SM.mulHi L H M K : Rat) := by
      refine max4_ge ?_
      rcases corner_hi a1 a2 b1 b2 with h | h | h | h
      · exact Or.inl (by grind)
      · exact Or.inr (Or.inl (by grind))
      · exact Or.inr (Or.inr (Or.inl (by grind)))
      · exact Or.inr (Or.inr (Or.inr (by grind)))
    grind
/-- How great a product of sines' spans can be. -/
theorem mul_fit {L H M K : Int} (f : Fit L H) (g : Fit M K) : -1000000000 ≤ SM.mulLo L H M K ∧ SM.mulLo L H M K ≤ SM.mulHi L H M K ∧ SM.mulHi L H M K ≤ 1000000000 := by
  obtain ⟨f1, f2, f3, _⟩ := f
  obtain ⟨g1, g2, g3, _⟩ := g
  have bd : ∀ a b : Int, -1000000000 ≤ a → a ≤ 1000000000 → -1000000000 ≤ b → b ≤ 1000000000 → -1000000000 ≤ NM.down (a * b) 1000000000 ∧ NM.down (a * b) 1000000000 ≤ NM.up (a * b) 1000000000 ∧ NM.up (a * b) 1000000000 ≤ 1000000000 := fun a b a1 a2 b1 b2 => by
    have h1 : a * b ≤ 1000000000 * 1000000000 := by
      rcases Int.le_total 0 a with ha | ha
      · have := Int.mul_le_mul_of_nonneg_left b2 ha
        omega
      · have := Int.mul_le_mul_of_nonpos_left (a := a) ha b1
        omega
    have h2 : -(1000000000 * 1000000000) ≤ a * b := by
      rcases Int.le_total 0 a with ha | ha
      · have := Int.mul_le_mul_of_nonneg_left b1 ha
        omega
      · have := Int.mul_le_mul_of_nonpos_left (a := a) ha b2
        omega
    unfold NM.down NM.up
    omega
  have p1 := bd L M (by omega) (by omega) (by omega) (by omega)
  have p2 := bd L K (by omega) (by omega) (by omega) (by omega)
  have p3 := bd H M (by omega) (by omega) (by omega) (by omega)
  have p4 := bd H K (by omega) (by omega) (by omega) (by omega)
  unfold SM.mulLo SM.mulHi
  omega
end SI
end Go.Proofs.Ytfdkpcejjcifgal
