/-
  The squares of ways have the true ones between them, but for a very little; by a third place it is not nearer. No Go text in sight.
-/
import Derived.Test.YtfdkpcejjcifgalSpotVec
namespace Go.Proofs.Ytfdkpcejjcifgal
namespace SI
set_option linter.unusedVariables false
open TS (mul_le sq_nonneg ev neg ab ab_bd q c s xx)
theorem In.clip {L H : Int} {v d : Rat} (h : In L H v d) (v0 : 0 ≤ 1000000000 * v + d) (v1 : 1000000000 * v ≤ 1000000000 + d) : In (clp L) (clp H) v d := by
  have l := h.lo
  have u := h.hi
  have c0 : ((0 : Int) : Rat) = 0 := rfl
  have c9 : ((1000000000 : Int) : Rat) = 1000000000 := rfl
  constructor
  · rcases (show clp L = 0 ∨ clp L ≤ L by unfold clp; omega) with e | e
    · rw [e, c0]; exact v0
    · have := cast_ge e; grind
  · rcases (show clp H = 1000000000 ∨ H ≤ clp H by unfold clp; omega) with e | e
    · rw [e, c9]; exact v1
    · have := cast_ge e; grind
def dF : Rat := 1 / 10000000000
theorem dF0 : 0 ≤ dF := by decide +kernel
theorem So_bd (x : Int) : So x ≤ 1 ∧ -1 ≤ So x := s_bd _
theorem So_sq (x : Int) : 0 ≤ So x * So x ∧ So x * So x ≤ 1 := by
  have b := So_bd x
  have := rmul_bd (x := So x) (y := So x) (A := 1) (B := 1) b.2 b.1 b.2 b.1
  exact ⟨sq_nonneg _, by grind⟩
theorem S_So {x : Int} (h0 : 0 ≤ x) (h1 : x < 259200000) : S x = So x := by
  rw [S_nn h0 h1]
  unfold So
  congr 1
  omega
theorem o_enc {x : Int} (h0 : -259200000 < x) (h1 : x < 259200000) : In (oL x) (oH x) (So x * So x) (3 * dF) := by
  have a := o_abs x
  have e : So x = So (max x (-x)) := by unfold So; congr 2; omega
  rw [a.1, a.2, e]
  generalize hk : max x (-x) = k
  have k0 : 0 ≤ k := by omega
  have i : In (siL k) (siH k) (So k) dF := by rw [← S_So k0 (by omega)]; exact si_encF k
  obtain ⟨m1, m2⟩ := mul_enc i i (si_le k) (si_le k) (So_bd k) (So_bd k) dF0 (by decide +kernel)
  have q := So_sq k
  have z := dF0
  exact In.clip ⟨m1, m2⟩ (by grind) (by grind)
theorem Kc_bd {a : Int} (h0 : -32400000 ≤ a) (h1 : a ≤ 32400000) : Kc a ≤ 1 ∧ -epsF ≤ Kc a := by
  refine ⟨(c_bd _).1, ?_⟩
  unfold Kc
  by_cases z : 4 * a.natAbs + 1 ≤ 129600000
  · have := c_pos z
    have := epsF0
    grind
  · rw [show 4 * a.natAbs = 64800000 + 64800000 by omega]
    exact (quarterF rfl).2.1
theorem k_enc {a : Int} (h0 : -32400000 ≤ a) (h1 : a ≤ 32400000) : In (kL a) (kH a) (Kc a) (2 * dF) := by
  have red : ∃ b : Int, 0 ≤ b ∧ b ≤ 32400000 ∧ kL a = kL b ∧ kH a = kH b ∧ Kc a = Kc b := by
    rcases Int.le_total 0 a with h | h
    · exact ⟨a, h, h1, rfl, rfl, rfl⟩
    · refine ⟨-a, by omega, by omega, (k_neg a).1.symm, (k_neg a).2.symm, ?_⟩
      unfold Kc
      congr 2
      omega
  obtain ⟨b, b0, b1, e1, e2, e3⟩ := red
  rw [e1, e2, e3]
  have i := si_encF (2 * b + 64800000)
  rw [S_nn (by omega) (by omega)] at i
  obtain ⟨⟨t1, t2⟩, _⟩ := turn_qF rfl (4 * b.natAbs)
  rw [show 4 * b.natAbs + (64800000 + 64800000) = (2 * b + 64800000).toNat + (2 * b + 64800000).toNat by omega] at t1 t2
  have kb := Kc_bd (a := b) (by omega) b1
  have l := i.lo
  have u := i.hi
  unfold Kc at kb ⊢
  unfold epsF at t1 t2 kb
  unfold dF
  generalize s ((2 * b + 64800000).toNat + (2 * b + 64800000).toNat) = v at *
  generalize c (4 * b.natAbs) = w at *
  exact In.clip ⟨by grind, by grind⟩ (by grind) (by grind)
theorem b_enc {a b : Int} (a0 : -32400000 ≤ a) (a1 : a ≤ 32400000) (b0 : -32400000 ≤ b) (b1 : b ≤ 32400000) : In (bL a b) (bH a b) (Kc a * Kc b) (6 * dF) ∧ -epsF ≤ Kc a * Kc b ∧ Kc a * Kc b ≤ 1 := by
  have ka := Kc_bd a0 a1
  have kb := Kc_bd b0 b1
  have z := dF0
  have ez := epsF0
  have e1 : epsF ≤ 1 := by decide +kernel
  obtain ⟨m1, m2⟩ := mul_enc (k_enc a0 a1) (k_enc b0 b1) (k_le a) (k_le b) ⟨ka.1, by grind⟩ ⟨kb.1, by grind⟩ (by grind) (by decide +kernel)
  have p1 : Kc a * Kc b ≤ 1 := by
    have := rmul_bd (x := Kc a) (y := Kc b) (A := 1) (B := 1) (by grind) ka.1 (by grind) kb.1
    grind
  have p0 : -epsF ≤ Kc a * Kc b := by
    have n : 0 ≤ (Kc a + epsF) * (Kc b + epsF) := Rat.mul_nonneg (by grind) (by grind)
    rcases Rat.le_total (a := 0) (b := Kc a) with g | g
    · have : 0 ≤ Kc a * (Kc b + epsF) := Rat.mul_nonneg g (by grind)
      have m := mul_le ka.1 (x := epsF) ez
      grind
    · rcases Rat.le_total (a := 0) (b := Kc b) with g2 | g2
      · have : 0 ≤ (Kc a + epsF) * Kc b := Rat.mul_nonneg (by grind) g2
        have m := mul_le kb.1 (x := epsF) ez
        grind
      · have : 0 ≤ (-Kc a) * (-Kc b) := Rat.mul_nonneg (by grind) (by grind)
        grind
  have big : epsF * 1000000000 ≤ dF := by decide +kernel
  refine ⟨In.clip ⟨by grind, by grind⟩ (by grind) (by grind), p0, p1⟩
theorem sq_enc {a l b m : Int} (a0 : -32400000 ≤ a) (a1 : a ≤ 32400000) (b0 : -32400000 ≤ b) (b1 : b ≤ 32400000) (l0 : 0 ≤ l) (l1 : l < 129600000) (m0 : 0 ≤ m) (m1 : m < 129600000) : In (sqL a l b m) (sqH a l b m) (hsq a l b m) (21 * dF) := by
  obtain ⟨ib, p0, p1⟩ := b_enc a0 a1 b0 b1
  have io := o_enc (x := b - a) (by omega) (by omega)
  have ia := o_enc (x := m - l) (by omega) (by omega)
  have qo := So_sq (b - a)
  have qa := So_sq (m - l)
  have z := dF0
  have ez := epsF0
  have e1 : epsF ≤ 1 := by decide +kernel
  obtain ⟨t1, t2⟩ := mul_enc ib (ia.wide (d' := 6 * dF) (by grind)) (b_le a b) (o_le (m - l)) ⟨p1, by grind⟩ ⟨qa.2, by grind⟩ (by grind) (by decide +kernel)
  have h1 := hsq_le (a := a) (b := b) l0 m0
  have big : epsF * 1000000000 ≤ dF := by decide +kernel
  have pn : -epsF ≤ Kc a * Kc b * (So (m - l) * So (m - l)) := by
    have : 0 ≤ (Kc a * Kc b + epsF) * (So (m - l) * So (m - l)) := Rat.mul_nonneg (by grind) qa.1
    have k := mul_le qa.2 ez
    grind
  have o1 := io.lo
  have o2 := io.hi
  unfold hsq at *
  generalize Kc a * Kc b * (So (m - l) * So (m - l)) = T at *
  generalize So (b - a) * So (b - a) = O at *
  unfold sqL sqH
  refine In.clip ⟨?_, ?_⟩ (by grind) (by grind)
  · rw [cast_add]; unfold tL; grind
  · rw [cast_add]; unfold tH; grind
/-! ### what an end of the fan says of the true square -/
def eF : Rat := 3 / 1000000000000000000
theorem s4_nn {A : Int} (A0 : 0 ≤ A) (A1 : A ≤ 32400000) : 0 ≤ s (4 * A.toNat) := by
  by_cases z : A = 0
  · rw [z]
    show 0 ≤ s 0
    rw [TS.s0]
    grind
  · have := s_pos (n := 4 * A.toNat) (by omega) (by omega)
    grind
/-- The lower end's sine's square is not above the true one, nearly. -/
theorem low_end {L H A : Int} {h : Rat} (i : In L H h (21 * dF)) (L0 : 0 ≤ L) (L1 : L ≤ 1000000000) (A0 : 0 ≤ A) (A1 : A ≤ 32400000) (e : siH (2 * A) ≤ min (SM.rtLo L) 1000000000) : s (4 * A.toNat) * s (4 * A.toNat) ≤ h + eF := by
  have k := (si_encF (2 * A)).hi
  rw [S_nn (by omega) (by omega), show (2 * A).toNat + (2 * A).toNat = 4 * A.toNat by omega] at k
  have r1 := (SM.rtLo_sq L0).1
  have r0 := SM.rtLo_nn L
  have r9 : SM.rtLo L ≤ 1000000000 := by
    by_cases z : SM.rtLo L ≤ 1000000000
    · exact z
    · have := Int.mul_le_mul (show 1000000001 ≤ SM.rtLo L by omega) (show 1000000001 ≤ SM.rtLo L by omega) (by decide) r0
      omega
  have c1 := cast_ge (show siH (2 * A) ≤ SM.rtLo L by omega)
  have c2 := cast_ge r1
  have c3 := cast_ge r0
  have c4 := cast_ge r9
  rw [cast_mul, cast_mul] at c2
  have c9 : ((1000000000 : Int) : Rat) = 1000000000 := rfl
  have c0 : ((0 : Int) : Rat) = 0 := rfl
  rw [c9] at c2 c4
  rw [c0] at c3
  have lo := i.lo
  have sn := s4_nn A0 A1
  unfold dF at lo
  unfold eF
  generalize s (4 * A.toNat) = v at *
  generalize (SM.rtLo L : Rat) = r at *
  have q := sq_mono (show 0 ≤ 1000000000 * v by grind) (show 1000000000 * v ≤ r + 1 / 10000000000 by grind)
  have q2 : (r + 1 / 10000000000) * (r + 1 / 10000000000) = r * r + 2 * r * (1 / 10000000000) + 1 / 10000000000 * (1 / 10000000000) := by grind
  have q3 : 1000000000 * v * (1000000000 * v) = v * v * 1000000000000000000 := by grind
  rw [q2, q3] at q
  generalize v * v = vv at *
  generalize r * r = rr at *
  clear q2 q3 sn k c1 r1 r0 r9 e
  grind
/-- The upper end's is not below it, nearly, unless it is a quarter. -/
theorem high_end {L H B : Int} {h : Rat} (i : In L H h (21 * dF)) (H0 : 0 ≤ H) (B0 : 0 ≤ B) (B1 : B < 32400000) (e : min (SM.rtHi H) 1000000000 ≤ siL (2 * B)) : h ≤ s (4 * B.toNat) * s (4 * B.toNat) + eF := by
  have k := (si_encF (2 * B)).lo
  rw [S_nn (by omega) (by omega), show (2 * B).toNat + (2 * B).toNat = 4 * B.toNat by omega] at k
  have st := si_strictH (h := 2 * B) (k := 64800000) (by omega) (by omega) (by decide)
  rw [ex3.2] at st
  have r1 := SM.rtHi_sq H0
  have r0 := SM.rtLo_nn H
  have ro := SM.rtHi_or H
  have c1 := cast_ge (show SM.rtHi H ≤ siL (2 * B) by omega)
  have c2 := cast_ge r1
  have c3 := cast_ge (show 0 ≤ SM.rtHi H by omega)
  have c4 := cast_ge (show SM.rtHi H ≤ 1000000000 by omega)
  rw [cast_mul, cast_mul] at c2
  have c9 : ((1000000000 : Int) : Rat) = 1000000000 := rfl
  have c0 : ((0 : Int) : Rat) = 0 := rfl
  rw [c9] at c2 c4
  rw [c0] at c3
  have hi := i.hi
  have sn := s4_nn B0 (by omega)
  have sb := (s_bd (4 * B.toNat)).1
  unfold dF at hi
  unfold eF
  generalize s (4 * B.toNat) = v at *
  generalize (SM.rtHi H : Rat) = r at *
  have q := sq_mono c3 (show r ≤ 1000000000 * v + 1 / 10000000000 by grind)
  have q2 : (1000000000 * v + 1 / 10000000000) * (1000000000 * v + 1 / 10000000000) = v * v * 1000000000000000000 + 2 * (1000000000 * v) * (1 / 10000000000) + 1 / 10000000000 * (1 / 10000000000) := by grind
  rw [q2] at q
  generalize v * v = vv at *
  generalize r * r = rr at *
  clear q2 sn k c1 r1 r0 ro e st
  grind
/-- What the fan's ends are. -/
structure Fan2 (a l b m A B : Int) : Prop where
  lo : dsL a l b m = 2 * max A 0
  hi : dsH a l b m = 2 * B
  a0 : -32400000 ≤ A
  a1 : A ≤ 32400000
  b0 : 0 ≤ B
  b1 : B ≤ 32400000
  le : siH (2 * A) ≤ min (SM.rtLo (sqL a l b m)) 1000000000
  ge : min (SM.rtHi (sqH a l b m)) 1000000000 ≤ siL (2 * B)
theorem fan2 (a l b m : Int) : ∃ A B : Int, Fan2 a l b m A B := by
  have s := sq_bd a l b m
  have le := sq_le a l b m
  have mo := rtm_mono s.1 le
  have r := rt_bd s.1
  have b1 := sb_of (x := min (SM.rtLo (sqL a l b m)) 1000000000) (by omega) (by omega)
  have b2 := sb_of (x := min (SM.rtHi (sqH a l b m)) 1000000000) (by omega) (by omega)
  have n := sbH_nn (x := min (SM.rtHi (sqH a l b m)) 1000000000) (by omega) (by omega)
  refine ⟨sbL (min (SM.rtLo (sqL a l b m)) 1000000000), sbH (min (SM.rtHi (sqH a l b m)) 1000000000), ?_, rfl, b1.l0, b1.l1, n, b2.h1, b1.lo, b2.hi⟩
  unfold dsL
  omega
/-- A place that is ok. -/
structure Pl (a l : Int) : Prop where
  a0 : -32400000 ≤ a
  a1 : a ≤ 32400000
  l0 : 0 ≤ l
  l1 : l < 129600000
theorem sq_encP {a l b m : Int} (p : Pl a l) (q : Pl b m) : In (sqL a l b m) (sqH a l b m) (hsq a l b m) (21 * dF) := sq_enc p.a0 p.a1 q.a0 q.a1 p.l0 p.l1 q.l0 q.l1
/-- By a third place it is not nearer. -/
theorem three {a l b m e n : Int} (p : Pl a l) (q : Pl b m) (r : Pl e n) : dsL a l b m ≤ dsH a l e n + dsH e n b m := by
  obtain ⟨A, _, f⟩ := fan2 a l b m
  obtain ⟨_, B, g⟩ := fan2 a l e n
  obtain ⟨_, D, k⟩ := fan2 e n b m
  rw [f.lo, g.hi, k.hi]
  have fa := f.a1
  have g0 := g.b0
  have k0 := k.b0
  by_cases z : A ≤ B + D
  · omega
  · exfalso
    have l1 := low_end (sq_encP p q) (sq_bd _ _ _ _).1 (by have := sq_bd a l b m; have := sq_le a l b m; omega) (show 0 ≤ A by omega) fa f.le
    have h1 := high_end (sq_encP p r) (by have := sq_bd a l e n; have := sq_le a l e n; omega) g0 (show B < 32400000 by omega) g.ge
    have h2 := high_end (sq_encP r q) (by have := sq_bd e n b m; have := sq_le e n b m; omega) k0 (show D < 32400000 by omega) k.ge
    -- a step more at both
    have d1 := sq_diff (m := 4 * B.toNat) (n := 4 * B.toNat + 1) (by omega)
    have d2 := sq_diff (m := 4 * D.toNat) (n := 4 * D.toNat + 1) (by omega)
    have p1 := s_pos2 (n := 4 * B.toNat + 1 + 4 * B.toNat) (by omega) (by omega)
    have p2 := s_pos2 (n := 4 * D.toNat + 1 + 4 * D.toNat) (by omega) (by omega)
    rw [show 4 * B.toNat + 1 - 4 * B.toNat = 1 by omega] at d1
    rw [show 4 * D.toNat + 1 - 4 * D.toNat = 1 by omega] at d2
    have p3 := s_pos2 (n := 1) (by omega) (by omega)
    have m1 := Rat.mul_nonneg (show 0 ≤ s (4 * B.toNat + 1 + 4 * B.toNat) - 9 / 1000000000 by grind) (show 0 ≤ s 1 - 9 / 1000000000 by grind)
    have m2 := Rat.mul_nonneg (show 0 ≤ s (4 * D.toNat + 1 + 4 * D.toNat) - 9 / 1000000000 by grind) (show 0 ≤ s 1 - 9 / 1000000000 by grind)
    have u : hsq a l e n ≤ s (4 * B.toNat + 1) * s (4 * B.toNat + 1) := by unfold eF at h1; grind
    have v : hsq e n b m ≤ s (4 * D.toNat + 1) * s (4 * D.toNat + 1) := by unfold eF at h2; grind
    have x1 := c_dbl (4 * B.toNat + 1)
    have x2 := c_dbl (4 * D.toNat + 1)
    obtain ⟨y1, y2⟩ := TS.add (4 * B.toNat + 1 + (4 * B.toNat + 1)) (4 * D.toNat + 1 + (4 * D.toNat + 1))
    have T := tri (vec_len a l) (vec_len b m) (vec_len e n) (sU := s (4 * B.toNat + 1 + (4 * B.toNat + 1))) (cU := c (4 * B.toNat + 1 + (4 * B.toNat + 1))) (sV := s (4 * D.toNat + 1 + (4 * D.toNat + 1))) (cV := c (4 * D.toNat + 1 + (4 * D.toNat + 1)))
      (by have := TS.len (4 * B.toNat + 1 + (4 * B.toNat + 1)); grind) (by have := TS.len (4 * D.toNat + 1 + (4 * D.toNat + 1)); grind)
      (by have := s_pos2 (n := 4 * B.toNat + 1 + (4 * B.toNat + 1)) (by omega) (by omega); grind) (by have := s_pos2 (n := 4 * D.toNat + 1 + (4 * D.toNat + 1)) (by omega) (by omega); grind)
      (by have := s_pos2 (n := 4 * B.toNat + 1 + (4 * B.toNat + 1) + (4 * D.toNat + 1 + (4 * D.toNat + 1))) (by omega) (by omega); grind)
      (by rw [vec_dot p.l0 r.l0, x1]; grind) (by rw [vec_dot r.l0 q.l0, x2]; grind)
    rw [vec_dot p.l0 q.l0, ← y2] at T
    have x3 := c_dbl (4 * (B + D).toNat + 2)
    rw [show 4 * B.toNat + 1 + (4 * B.toNat + 1) + (4 * D.toNat + 1 + (4 * D.toNat + 1)) = 4 * (B + D).toNat + 2 + (4 * (B + D).toNat + 2) by omega, x3] at T
    have d3 := sq_diff (m := 4 * (B + D).toNat + 2) (n := 4 * A.toNat) (by omega)
    have p4 := s_pos2 (n := 4 * A.toNat + (4 * (B + D).toNat + 2)) (by omega) (by omega)
    have p5 := s_pos2 (n := 4 * A.toNat - (4 * (B + D).toNat + 2)) (by omega) (by omega)
    have m3 := Rat.mul_nonneg (show 0 ≤ s (4 * A.toNat + (4 * (B + D).toNat + 2)) - 9 / 1000000000 by grind) (show 0 ≤ s (4 * A.toNat - (4 * (B + D).toNat + 2)) - 9 / 1000000000 by grind)
    unfold eF at l1
    clear d1 d2 m1 m2 u v x1 x2 y1 y2 x3 h1 h2 p1 p2 p3
    generalize s (4 * A.toNat + (4 * (B + D).toNat + 2)) = w1 at *
    generalize s (4 * A.toNat - (4 * (B + D).toNat + 2)) = w2 at *
    grind
end SI
end Go.Proofs.Ytfdkpcejjcifgal
