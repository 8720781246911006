/-
  To a place, and to what is opposite. No Go text in sight.
-/
import Derived.Test.YtfdkpcejjcifgalSpotEnc
namespace Go.Proofs.Ytfdkpcejjcifgal
namespace SI
set_option linter.unusedVariables false
open TS (mul_le sq_nonneg ev neg ab ab_bd q c s xx)
theorem Kc_neg (b : Int) : Kc (-b) = Kc b := by
  unfold Kc
  rw [Int.natAbs_neg]
theorem Ks_neg (b : Int) : Ks (-b) = -Ks b := by
  unfold Ks
  rw [Int.natAbs_neg]
  by_cases z : b = 0
  · subst z
    show (if (0 : Int) ≤ -0 then s 0 else -s 0) = -(if (0 : Int) ≤ 0 then s 0 else -s 0)
    rw [TS.s0]
    simp
  · by_cases h : 0 ≤ b
    · rw [if_neg (by omega), if_pos h]
    · rw [if_pos (by omega), if_neg h]; grind
/-- Half a turn around. -/
theorem half_round {m m' : Int} (m0 : 0 ≤ m) (m0' : 0 ≤ m') (h : m' = m + 64800000 ∨ m = m' + 64800000) : near (c (4 * m'.natAbs)) (-c (4 * m.natAbs)) (4 * epsF) ∧ near (s (4 * m'.natAbs)) (-s (4 * m.natAbs)) (4 * epsF) := by
  rcases h with h | h
  · obtain ⟨a, b⟩ := turn_hF rfl (4 * m.natAbs)
    rw [show 4 * m.natAbs + (64800000 + 64800000) + (64800000 + 64800000) = 4 * m'.natAbs by omega] at a b
    exact ⟨b, a⟩
  · obtain ⟨a, b⟩ := turn_hF rfl (4 * m'.natAbs)
    rw [show 4 * m'.natAbs + (64800000 + 64800000) + (64800000 + 64800000) = 4 * m.natAbs by omega] at a b
    unfold near at *
    exact ⟨⟨by grind, by grind⟩, by grind, by grind⟩
theorem far_sum {a l b m m' : Int} (l0 : 0 ≤ l) (m0 : 0 ≤ m) (m0' : 0 ≤ m') (h : m' = m + 64800000 ∨ m = m' + 64800000) : near (hsq a l b m + hsq a l (-b) m') 1 (4 * epsF) := by
  have d1 := vec_dot (a := a) (b := b) l0 m0
  have d2 := vec_dot (a := a) (b := -b) l0 m0'
  obtain ⟨⟨c1, c2⟩, s1, s2⟩ := half_round m0 m0' h
  simp only [dot, vec] at d1 d2
  rw [Kc_neg, Ks_neg] at d2
  have ka := c_bd (4 * a.natAbs)
  have kb := c_bd (4 * b.natAbs)
  have cl := c_bd (4 * l.natAbs)
  have sl := s_bd (4 * l.natAbs)
  have kk := rmul_bd (x := Kc a) (y := Kc b) (A := 1) (B := 1) ka.2 ka.1 kb.2 kb.1
  have ez := epsF0
  have f1 := rmul_bd (x := c (4 * l.natAbs)) (y := c (4 * m'.natAbs) + c (4 * m.natAbs)) (A := 1) (B := 4 * epsF) cl.2 cl.1 (by grind) (by grind)
  have f2 := rmul_bd (x := s (4 * l.natAbs)) (y := s (4 * m'.natAbs) + s (4 * m.natAbs)) (A := 1) (B := 4 * epsF) sl.2 sl.1 (by grind) (by grind)
  have f3 := rmul_bd (x := Kc a * Kc b) (y := c (4 * l.natAbs) * (c (4 * m'.natAbs) + c (4 * m.natAbs)) + s (4 * l.natAbs) * (s (4 * m'.natAbs) + s (4 * m.natAbs))) (A := 1) (B := 8 * epsF) (by grind) (by grind) (by grind) (by grind)
  have e : Kc a * c (4 * l.natAbs) * (Kc b * c (4 * m'.natAbs)) + Kc a * s (4 * l.natAbs) * (Kc b * s (4 * m'.natAbs)) + Ks a * -Ks b + (Kc a * c (4 * l.natAbs) * (Kc b * c (4 * m.natAbs)) + Kc a * s (4 * l.natAbs) * (Kc b * s (4 * m.natAbs)) + Ks a * Ks b)
      = Kc a * Kc b * (c (4 * l.natAbs) * (c (4 * m'.natAbs) + c (4 * m.natAbs)) + s (4 * l.natAbs) * (s (4 * m'.natAbs) + s (4 * m.natAbs))) := by grind
  rw [d1, d2] at e
  generalize Kc a * Kc b * (c (4 * l.natAbs) * (c (4 * m'.natAbs) + c (4 * m.natAbs)) + s (4 * l.natAbs) * (s (4 * m'.natAbs) + s (4 * m.natAbs))) = T at *
  unfold near
  clear d1 d2 f1 f2 kk c1 c2 s1 s2 ka kb cl sl
  constructor <;> grind
structure Opp (a l b m m' : Int) : Prop where
  p : Pl a l
  q : Pl b m
  q0 : 0 ≤ m'
  q1 : m' < 129600000
  h : m' = m + 64800000 ∨ m = m' + 64800000
theorem Opp.f {a l b m m' : Int} (o : Opp a l b m m') : Pl (-b) m' := ⟨by have := o.q.a1; omega, by have := o.q.a0; omega, o.q0, o.q1⟩
theorem Opp.sum {a l b m m' : Int} (o : Opp a l b m m') : near (hsq a l b m + hsq a l (-b) m') 1 (4 * epsF) := far_sum o.p.l0 o.q.l0 o.q0 o.h
/-- One is in both squares together. -/
theorem far_sq {a l b m m' : Int} (o : Opp a l b m m') : sqL a l b m + sqL a l (-b) m' ≤ 1000000000 ∧ 1000000000 ≤ sqH a l b m + sqH a l (-b) m' := by
  obtain ⟨n1, n2⟩ := o.sum
  obtain ⟨i1, i2⟩ := sq_encP o.p o.q
  obtain ⟨j1, j2⟩ := sq_encP o.p o.f
  have c9 : ((1000000000 : Int) : Rat) = 1000000000 := rfl
  unfold epsF at n1 n2
  unfold dF at i1 i2 j1 j2
  constructor
  · refine le_of_near (e := 1 / 2) ?_ (by decide +kernel)
    rw [cast_add, c9]
    grind
  · refine le_of_near (e := 1 / 2) ?_ (by decide +kernel)
    rw [cast_add, c9]
    grind
theorem s_mono {m n : Nat} (h : m ≤ n) (h1 : n ≤ 129600000) : s m * s m ≤ s n * s n := by
  have d := sq_diff h
  by_cases z : m = n
  · rw [z]; grind
  · by_cases y : n + m + 1 ≤ 259200000
    · have p := s_pos2 (n := n + m) (by omega) y
      have q := s_pos2 (n := n - m) (by omega) (by omega)
      have := Rat.mul_nonneg (show 0 ≤ s (n + m) by grind) (show 0 ≤ s (n - m) by grind)
      grind
    · omega
/-- Half a turn is in both fans together. -/
theorem far_ds {a l b m m' : Int} (o : Opp a l b m m') : dsL a l b m + dsL a l (-b) m' ≤ 64800000 ∧ 64800000 ≤ dsH a l b m + dsH a l (-b) m' := by
  obtain ⟨A, B, f⟩ := fan2 a l b m
  obtain ⟨D, E, g⟩ := fan2 a l (-b) m'
  obtain ⟨n1, n2⟩ := o.sum
  have i := sq_encP o.p o.q
  have j := sq_encP o.p o.f
  have b1 := sq_bd a l b m
  have b2 := sq_bd a l (-b) m'
  have b3 := sq_le a l b m
  have b4 := sq_le a l (-b) m'
  have fa := f.a1
  have ga := g.a1
  have fb := f.b0
  have gb := g.b0
  unfold epsF at n1 n2
  constructor
  · rw [f.lo, g.lo]
    by_cases z : max A 0 + max D 0 ≤ 32400000
    · omega
    · exfalso
      have l1 := low_end i b1.1 (by omega) (show 0 ≤ A by omega) fa f.le
      have l2 := low_end j b2.1 (by omega) (show 0 ≤ D by omega) ga g.le
      -- what lacks to a quarter
      have mo := s_mono (m := 4 * (32400001 - A).toNat) (n := 4 * D.toNat) (by omega) (by omega)
      obtain ⟨⟨k1, k2⟩, _⟩ := lack_qF rfl (m := 4 * (32400001 - A).toNat) (k := 4 * (A - 1).toNat) (by omega)
      have d := sq_diff (m := 4 * (A - 1).toNat) (n := 4 * A.toNat) (by omega)
      rw [show 4 * A.toNat - 4 * (A - 1).toNat = 4 by omega] at d
      have p1 := s_pos2 (n := 4 * A.toNat + 4 * (A - 1).toNat) (by omega) (by omega)
      have p2 := s_pos2 (n := 4) (by omega) (by omega)
      have mm := Rat.mul_nonneg (show 0 ≤ s (4 * A.toNat + 4 * (A - 1).toNat) - 9 / 1000000000 by grind) (show 0 ≤ s 4 - 9 / 1000000000 by grind)
      have ln := TS.len (4 * (A - 1).toNat)
      have cb := c_bd (4 * (A - 1).toNat)
      have sb := s_bd (4 * (32400001 - A).toNat)
      unfold epsF at k1 k2
      unfold eF at l1 l2
      have pr := rmul_bd (x := s (4 * (32400001 - A).toNat) - c (4 * (A - 1).toNat)) (y := s (4 * (32400001 - A).toNat) + c (4 * (A - 1).toNat)) (A := 2 * (1 / 1000000000000000000000)) (B := 2) (by grind) (by grind) (by grind) (by grind)
      have pe : (s (4 * (32400001 - A).toNat) - c (4 * (A - 1).toNat)) * (s (4 * (32400001 - A).toNat) + c (4 * (A - 1).toNat)) = s (4 * (32400001 - A).toNat) * s (4 * (32400001 - A).toNat) - c (4 * (A - 1).toNat) * c (4 * (A - 1).toNat) := by grind
      rw [pe] at pr
      generalize s (4 * A.toNat) * s (4 * A.toNat) = t1 at *
      generalize s (4 * D.toNat) * s (4 * D.toNat) = t2 at *
      generalize s (4 * (32400001 - A).toNat) * s (4 * (32400001 - A).toNat) = t3 at *
      generalize c (4 * (A - 1).toNat) * c (4 * (A - 1).toNat) = t4 at *
      generalize s (4 * (A - 1).toNat) * s (4 * (A - 1).toNat) = t5 at *
      generalize s (4 * A.toNat + 4 * (A - 1).toNat) = t6 at *
      generalize s 4 = t7 at *
      clear k1 k2 cb sb pe
      grind
  · rw [f.hi, g.hi]
    by_cases z : 32400000 ≤ B + E
    · omega
    · exfalso
      have h1 := high_end i (by omega) fb (show B < 32400000 by omega) f.ge
      have h2 := high_end j (by omega) gb (show E < 32400000 by omega) g.ge
      have mo := s_mono (m := 4 * E.toNat) (n := 4 * (32399999 - B).toNat) (by omega) (by omega)
      obtain ⟨⟨k1, k2⟩, _⟩ := lack_qF rfl (m := 4 * (32399999 - B).toNat) (k := 4 * (B + 1).toNat) (by omega)
      have d := sq_diff (m := 4 * B.toNat) (n := 4 * (B + 1).toNat) (by omega)
      rw [show 4 * (B + 1).toNat - 4 * B.toNat = 4 by omega] at d
      have p1 := s_pos2 (n := 4 * (B + 1).toNat + 4 * B.toNat) (by omega) (by omega)
      have p2 := s_pos2 (n := 4) (by omega) (by omega)
      have mm := Rat.mul_nonneg (show 0 ≤ s (4 * (B + 1).toNat + 4 * B.toNat) - 9 / 1000000000 by grind) (show 0 ≤ s 4 - 9 / 1000000000 by grind)
      have ln := TS.len (4 * (B + 1).toNat)
      have cb := c_bd (4 * (B + 1).toNat)
      have sb := s_bd (4 * (32399999 - B).toNat)
      unfold epsF at k1 k2
      unfold eF at h1 h2
      have pr := rmul_bd (x := s (4 * (32399999 - B).toNat) - c (4 * (B + 1).toNat)) (y := s (4 * (32399999 - B).toNat) + c (4 * (B + 1).toNat)) (A := 2 * (1 / 1000000000000000000000)) (B := 2) (by grind) (by grind) (by grind) (by grind)
      have pe : (s (4 * (32399999 - B).toNat) - c (4 * (B + 1).toNat)) * (s (4 * (32399999 - B).toNat) + c (4 * (B + 1).toNat)) = s (4 * (32399999 - B).toNat) * s (4 * (32399999 - B).toNat) - c (4 * (B + 1).toNat) * c (4 * (B + 1).toNat) := by grind
      rw [pe] at pr
      generalize s (4 * B.toNat) * s (4 * B.toNat) = t1 at *
      generalize s (4 * E.toNat) * s (4 * E.toNat) = t2 at *
      generalize s (4 * (32399999 - B).toNat) * s (4 * (32399999 - B).toNat) = t3 at *
      generalize c (4 * (B + 1).toNat) * c (4 * (B + 1).toNat) = t4 at *
      generalize s (4 * (B + 1).toNat) * s (4 * (B + 1).toNat) = t5 at *
      generalize s (4 * (B + 1).toNat + 4 * B.toNat) = t6 at *
      generalize s 4 = t7 at *
      clear k1 k2 cb sb pe
      grind
end SI
end Go.Proofs.Ytfdkpcejjcifgal
