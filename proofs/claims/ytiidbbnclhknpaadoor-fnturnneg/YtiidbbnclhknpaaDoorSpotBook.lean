/-
  Fine sines, and places on a ball: plain mathematics.
-/
import Derived.Test.YtiidbbnclhknpaaDoorSineBook
namespace Go.Proofs.YtiidbbnclhknpaaDoor
namespace SI
set_option linter.unusedVariables false
open TS (mul_le sq_nonneg ev neg ab ab_bd q c s xx)
/-! ### the turn, finely reckoned -/
theorem rmul_bd {x y A B : Rat} (h1 : -A ≤ x) (h2 : x ≤ A) (h3 : -B ≤ y) (h4 : y ≤ B) : -(A * B) ≤ x * y ∧ x * y ≤ A * B := by
  have e1 : 0 ≤ (A - x) * (B + y) := Rat.mul_nonneg (by grind) (by grind)
  have e2 : 0 ≤ (A + x) * (B - y) := Rat.mul_nonneg (by grind) (by grind)
  have e3 : 0 ≤ (A - x) * (B - y) := Rat.mul_nonneg (by grind) (by grind)
  have e4 : 0 ≤ (A + x) * (B + y) := Rat.mul_nonneg (by grind) (by grind)
  constructor <;> grind
/-- So fine. -/
def MM : Int := 1000000000000000000000000000000000000000000000
/-- Cosine and sine of so many steps, nearly. -/
structure Nr (n : Nat) (A B E : Int) : Prop where
  c1 : (A : Rat) ≤ (MM : Rat) * c n + (E : Rat)
  c2 : (MM : Rat) * c n ≤ (A : Rat) + (E : Rat)
  s1 : (B : Rat) ≤ (MM : Rat) * s n + (E : Rat)
  s2 : (MM : Rat) * s n ≤ (B : Rat) + (E : Rat)
theorem mm_pos' : (0 : Rat) < (MM : Rat) := by decide +kernel
theorem dbl_aux {m a b e X Y A' B' C' S' : Rat} (M0 : 0 < m) (k0 : 0 ≤ e) (k1 : 4 * e ≤ m) (X1 : X ≤ m) (X2 : -m ≤ X) (Y1 : Y ≤ m) (Y2 : -m ≤ Y) (p1 : a ≤ X + e) (p2 : X ≤ a + e) (p3 : b ≤ Y + e) (p4 : Y ≤ b + e)
    (d1 : A' * m ≤ a * a - b * b) (d1' : a * a - b * b ≤ A' * m + m) (d2 : B' * m ≤ 2 * (a * b)) (d2' : 2 * (a * b) ≤ B' * m + m) (E1 : C' * m = X * X - Y * Y) (E2 : S' * m = 2 * (X * Y)) :
    A' ≤ C' + (5 * e + 1) ∧ C' ≤ A' + (5 * e + 1) ∧ B' ≤ S' + (5 * e + 1) ∧ S' ≤ B' + (5 * e + 1) := by
  have f1 := rmul_bd (x := X - a) (y := X + a) (A := e) (B := 2 * m + e) (by grind) (by grind) (by grind) (by grind)
  have f2 := rmul_bd (x := Y - b) (y := Y + b) (A := e) (B := 2 * m + e) (by grind) (by grind) (by grind) (by grind)
  have f3 := rmul_bd (x := X - a) (y := Y) (A := e) (B := m) (by grind) (by grind) (by grind) (by grind)
  have f4 := rmul_bd (x := Y - b) (y := a) (A := e) (B := m + e) (by grind) (by grind) (by grind) (by grind)
  have f5 := mul_le k1 (x := e) k0
  clear X1 X2 Y1 Y2 p1 p2 p3 p4
  refine ⟨le_of_mul (m := m) M0 ?_, le_of_mul (m := m) M0 ?_, le_of_mul (m := m) M0 ?_, le_of_mul (m := m) M0 ?_⟩
  · clear f3 f4 d2 d2' E2; grind
  · clear f3 f4 d2 d2' E2; grind
  · clear f1 f2 d1 d1' E1; grind
  · clear f1 f2 d1 d1' E1; grind
theorem Nr.dbl {n : Nat} {A B E : Int} (h : Nr n A B E) (e0 : 0 ≤ E) (e1 : 4 * E ≤ MM) : Nr (n + n) ((A * A - B * B) / MM) (2 * (A * B) / MM) (5 * E + 1) := by
  obtain ⟨a1, a2⟩ := TS.add n n
  obtain ⟨x1, x2⟩ := c_bd n
  obtain ⟨y1, y2⟩ := s_bd n
  obtain ⟨p1, p2, p3, p4⟩ := h
  have M0 := mm_pos'
  have d1 := down_bd (A * A - B * B) (m := MM) (by decide)
  have d2 := down_bd (2 * (A * B)) (m := MM) (by decide)
  have k0 := cast_ge e0
  have k1 := cast_ge e1
  rw [cast_mul] at k1
  have z5 : ((5 * E + 1 : Int) : Rat) = 5 * (E : Rat) + 1 := by push_cast; rfl
  have q1 : ((A * A - B * B : Int) : Rat) = (A : Rat) * (A : Rat) - (B : Rat) * (B : Rat) := by push_cast; rfl
  have q2 : ((2 * (A * B) : Int) : Rat) = 2 * ((A : Rat) * (B : Rat)) := by push_cast; rfl
  rw [q1] at d1
  rw [q2] at d2
  unfold NM.down at d1 d2
  have X1 := mul_le x1 (x := (MM : Rat)) (by grind)
  have X2 := mul_le x2 (x := (MM : Rat)) (by grind)
  have Y1 := mul_le y1 (x := (MM : Rat)) (by grind)
  have Y2 := mul_le y2 (x := (MM : Rat)) (by grind)
  have E1 : (MM : Rat) * c (n + n) * (MM : Rat) = ((MM : Rat) * c n) * ((MM : Rat) * c n) - ((MM : Rat) * s n) * ((MM : Rat) * s n) := by rw [a2]; grind
  have E2 : (MM : Rat) * s (n + n) * (MM : Rat) = 2 * (((MM : Rat) * c n) * ((MM : Rat) * s n)) := by rw [a1]; grind
  have R := dbl_aux M0 k0 k1 (by grind) (by grind) (by grind) (by grind) p1 p2 p3 p4 d1.1 d1.2 d2.1 d2.2 E1 E2
  rw [← z5] at R
  exact ⟨R.1, R.2.1, R.2.2.1, R.2.2.2⟩
def Pn : Int := 999999999999999963274327282659552613215882320710619164740156
def Qn : Int := 12120342027738399988124000000000000000000000000000000
def Dn : Int := 1000000000000000036725672717340447386784117679289380835259844
theorem one_aux {P Q D a b e X Y A' B' C' S' : Rat} (D0 : 0 < D) (k0 : 0 ≤ e) (b1 : P + Q ≤ 2 * D) (b2 : 0 ≤ P) (b3 : 0 ≤ Q) (p1 : a ≤ X + e) (p2 : X ≤ a + e) (p3 : b ≤ Y + e) (p4 : Y ≤ b + e)
    (d1 : A' * D ≤ P * a - Q * b) (d1' : P * a - Q * b ≤ A' * D + D) (d2 : B' * D ≤ P * b + Q * a) (d2' : P * b + Q * a ≤ B' * D + D) (E1 : C' * D = P * X - Q * Y) (E2 : S' * D = P * Y + Q * X) :
    A' ≤ C' + (2 * e + 1) ∧ C' ≤ A' + (2 * e + 1) ∧ B' ≤ S' + (2 * e + 1) ∧ S' ≤ B' + (2 * e + 1) := by
  have g1 := mul_le p1 b2
  have g2 := mul_le p2 b2
  have g3 := mul_le p3 b2
  have g4 := mul_le p4 b2
  have g5 := mul_le p1 b3
  have g6 := mul_le p2 b3
  have g7 := mul_le p3 b3
  have g8 := mul_le p4 b3
  have g9 := mul_le b1 k0
  clear p1 p2 p3 p4
  refine ⟨le_of_mul (m := D) D0 ?_, le_of_mul (m := D) D0 ?_, le_of_mul (m := D) D0 ?_, le_of_mul (m := D) D0 ?_⟩
  · clear d2 d2' E2; grind
  · clear d2 d2' E2; grind
  · clear d1 d1' E1; grind
  · clear d1 d1' E1; grind
theorem Nr.one {n : Nat} {A B E : Int} (h : Nr n A B E) (e0 : 0 ≤ E) : Nr (n + 1) ((Pn * A - Qn * B) / Dn) ((Pn * B + Qn * A) / Dn) (2 * E + 1) := by
  obtain ⟨p1, p2, p3, p4⟩ := h
  have a1 := TS.c_succ n
  have a2 := TS.s_succ n
  have D0 : (0 : Rat) < (Dn : Rat) := by decide +kernel
  have ep : TS.p * (Dn : Rat) = (Pn : Rat) := by decide +kernel
  have eq : TS.q * (Dn : Rat) = (Qn : Rat) := by decide +kernel
  have b1 : (Pn : Rat) + (Qn : Rat) ≤ 2 * (Dn : Rat) := by decide +kernel
  have b2 : (0 : Rat) ≤ (Pn : Rat) := by decide +kernel
  have b3 : (0 : Rat) ≤ (Qn : Rat) := by decide +kernel
  have d1 := down_bd (Pn * A - Qn * B) (m := Dn) (by decide)
  have d2 := down_bd (Pn * B + Qn * A) (m := Dn) (by decide)
  have q1 : ((Pn * A - Qn * B : Int) : Rat) = (Pn : Rat) * (A : Rat) - (Qn : Rat) * (B : Rat) := by push_cast; rfl
  have q2 : ((Pn * B + Qn * A : Int) : Rat) = (Pn : Rat) * (B : Rat) + (Qn : Rat) * (A : Rat) := by push_cast; rfl
  rw [q1] at d1
  rw [q2] at d2
  unfold NM.down at d1 d2
  have k0 := cast_ge e0
  have z5 : ((2 * E + 1 : Int) : Rat) = 2 * (E : Rat) + 1 := by push_cast; rfl
  have E1 : (MM : Rat) * c (n + 1) * (Dn : Rat) = (Pn : Rat) * ((MM : Rat) * c n) - (Qn : Rat) * ((MM : Rat) * s n) := by
    rw [a1, ← ep, ← eq]
    generalize (Dn : Rat) = D
    generalize (MM : Rat) = m
    generalize TS.p = u
    generalize TS.q = v
    grind
  have E2 : (MM : Rat) * s (n + 1) * (Dn : Rat) = (Pn : Rat) * ((MM : Rat) * s n) + (Qn : Rat) * ((MM : Rat) * c n) := by
    rw [a2, ← ep, ← eq]
    generalize (Dn : Rat) = D
    generalize (MM : Rat) = m
    generalize TS.p = u
    generalize TS.q = v
    grind
  have R := one_aux D0 k0 b1 b2 b3 p1 p2 p3 p4 d1.1 d1.2 d2.1 d2.2 E1 E2
  rw [← z5] at R
  exact ⟨R.1, R.2.1, R.2.2.1, R.2.2.2⟩
/-- So many steps, by the digits of their number. -/
def runF : List Bool → Nat × Int × Int × Int → Nat × Int × Int × Int
  | [], t => t
  | false :: r, (n, A, B, E) => runF r (n + n, (A * A - B * B) / MM, 2 * (A * B) / MM, 5 * E + 1)
  | true :: r, (n, A, B, E) => runF r (n + n + 1, (Pn * ((A * A - B * B) / MM) - Qn * (2 * (A * B) / MM)) / Dn, (Pn * (2 * (A * B) / MM) + Qn * ((A * A - B * B) / MM)) / Dn, 2 * (5 * E + 1) + 1)
theorem runF_nr : ∀ (r : List Bool) (n : Nat) (A B E : Int), 0 ≤ E → (∀ k : Nat, k = r.length → 4 * ((E + 1) * 16 ^ k) ≤ MM) → Nr n A B E → Nr (runF r (n, A, B, E)).1 (runF r (n, A, B, E)).2.1 (runF r (n, A, B, E)).2.2.1 (runF r (n, A, B, E)).2.2.2 := by
  intro r
  induction r with
  | nil => intro n A B E _ _ h; exact h
  | cons b r ih =>
    intro n A B E e0 e1 h
    have e2 := e1 (r.length + 1) rfl
    have pw : (16 : Int) ^ (r.length + 1) = 16 ^ r.length * 16 := Int.pow_succ _ _
    rw [pw] at e2
    have p1 : (1 : Int) ≤ 16 ^ r.length := by
      have : (0 : Int) < 16 ^ r.length := Int.pow_pos (by decide)
      omega
    have p2 : (E + 1) * (16 ^ r.length * 16) = (E + 1) * 16 ^ r.length * 16 := by rw [Int.mul_assoc]
    have p3 := Int.mul_le_mul_of_nonneg_left p1 (show 0 ≤ E + 1 by omega)
    have hd := h.dbl e0 (by rw [p2] at e2; omega)
    cases b with
    | false =>
      refine ih _ _ _ _ (by omega) (fun k hk => ?_) hd
      subst hk
      have : (5 * E + 1 + 1) * 16 ^ r.length ≤ (E + 1) * 16 ^ r.length * 16 := by
        have a := Int.mul_le_mul_of_nonneg_right (show 5 * E + 1 + 1 ≤ (E + 1) * 16 by omega) (show (0 : Int) ≤ 16 ^ r.length by omega)
        rw [Int.mul_assoc, Int.mul_comm 16, ← Int.mul_assoc] at a
        exact a
      rw [p2] at e2
      omega
    | true =>
      refine ih _ _ _ _ (by omega) (fun k hk => ?_) (hd.one (by omega))
      subst hk
      have : (2 * (5 * E + 1) + 1 + 1) * 16 ^ r.length ≤ (E + 1) * 16 ^ r.length * 16 := by
        have a := Int.mul_le_mul_of_nonneg_right (show 2 * (5 * E + 1) + 1 + 1 ≤ (E + 1) * 16 by omega) (show (0 : Int) ≤ 16 ^ r.length by omega)
        rw [Int.mul_assoc, Int.mul_comm 16, ← Int.mul_assoc] at a
        exact a
      rw [p2] at e2
      omega
theorem nr_zero : Nr 0 MM 0 0 := by
  have z0 : ((0 : Int) : Rat) = 0 := rfl
  refine ⟨?_, ?_, ?_, ?_⟩
  all_goals first | rw [TS.c0] | rw [TS.s0]
  all_goals rw [z0]
  all_goals grind
def bitsQ : List Bool := [true, true, true, true, false, true, true, true, false, false, true, true, false, false, false, true, false, true, false, false, false, false, false, false, false, false, false]
def bitsH : List Bool := [true, false, true, false, false, true, false, false, true, true, false, false, true, false, true, true, true, false, false, false, false, false, false, false, false, false]
theorem run_q : (runF bitsQ (0, MM, 0, 0)).1 = 129600000 ∧ -1000000000000000000000000 ≤ (runF bitsQ (0, MM, 0, 0)).2.1 - (runF bitsQ (0, MM, 0, 0)).2.2.2 ∧ (runF bitsQ (0, MM, 0, 0)).2.1 + (runF bitsQ (0, MM, 0, 0)).2.2.2 ≤ 1000000000000000000000000 ∧ MM - 1000000000000000000000000 ≤ (runF bitsQ (0, MM, 0, 0)).2.2.1 - (runF bitsQ (0, MM, 0, 0)).2.2.2 := by decide +kernel
theorem run_h : (runF bitsH (0, MM, 0, 0)).1 = 43200000 ∧ MM - 2000000000000000000000000 ≤ 2 * ((runF bitsH (0, MM, 0, 0)).2.2.1 - (runF bitsH (0, MM, 0, 0)).2.2.2) ∧ 2 * ((runF bitsH (0, MM, 0, 0)).2.2.1 + (runF bitsH (0, MM, 0, 0)).2.2.2) ≤ MM + 2000000000000000000000000 := by decide +kernel
/-- A very little. -/
def epsF : Rat := 1 / 1000000000000000000000
theorem epsF0 : 0 ≤ epsF := by decide +kernel
theorem quarterF {N : Nat} (hN : N = 64800000) : 1 - epsF ≤ s (N + N) ∧ -epsF ≤ c (N + N) ∧ c (N + N) ≤ epsF := by
  have R := runF_nr bitsQ 0 MM 0 0 (by decide) (fun k hk => by subst hk; decide +kernel) nr_zero
  obtain ⟨e, k1, k2, k3⟩ := run_q
  rw [e] at R
  obtain ⟨r1, r2, r3, r4⟩ := R
  have g1 := cast_ge k1
  have g2 := cast_ge k2
  have g3 := cast_ge k3
  rw [cast_sub] at g1
  rw [cast_add] at g2
  rw [cast_sub, cast_sub] at g3
  have m0 := mm_pos'
  have me : (MM : Rat) * epsF = 1000000000000000000000000 := by decide +kernel
  have c1 : ((-1000000000000000000000000 : Int) : Rat) = -1000000000000000000000000 := rfl
  have c2 : ((1000000000000000000000000 : Int) : Rat) = 1000000000000000000000000 := rfl
  rw [c1] at g1
  rw [c2] at g2 g3
  have eN : N + N = 129600000 := by omega
  rw [eN]
  clear e k1 k2 k3
  generalize ((runF bitsQ (0, MM, 0, 0)).2.1 : Rat) = A at *
  generalize ((runF bitsQ (0, MM, 0, 0)).2.2.1 : Rat) = B at *
  generalize ((runF bitsQ (0, MM, 0, 0)).2.2.2 : Rat) = E at *
  generalize s 129600000 = sv at *
  generalize c 129600000 = cv at *
  refine ⟨le_of_mul (m := (MM : Rat)) m0 ?_, le_of_mul (m := (MM : Rat)) m0 ?_, le_of_mul (m := (MM : Rat)) m0 ?_⟩
  all_goals grind
theorem half_ptF {n : Nat} (hn : n = 43200000) : near (s n) (1 / 2) epsF := by
  have R := runF_nr bitsH 0 MM 0 0 (by decide) (fun k hk => by subst hk; decide +kernel) nr_zero
  obtain ⟨e, k1, k2⟩ := run_h
  rw [e] at R
  obtain ⟨r1, r2, r3, r4⟩ := R
  have g1 := cast_ge k1
  have g2 := cast_ge k2
  rw [cast_sub, cast_mul, cast_sub] at g1
  rw [cast_add, cast_mul, cast_add] at g2
  have m0 := mm_pos'
  have me : (MM : Rat) * epsF = 1000000000000000000000000 := by decide +kernel
  have c2 : ((2000000000000000000000000 : Int) : Rat) = 2000000000000000000000000 := rfl
  have c3 : ((2 : Int) : Rat) = 2 := rfl
  rw [c2, c3] at g1 g2
  subst hn
  clear e k1 k2
  generalize ((runF bitsH (0, MM, 0, 0)).2.2.1 : Rat) = B at *
  generalize ((runF bitsH (0, MM, 0, 0)).2.2.2 : Rat) = E at *
  generalize s 43200000 = sv at *
  unfold near
  refine ⟨le_of_mul (m := (MM : Rat)) m0 ?_, le_of_mul (m := (MM : Rat)) m0 ?_⟩
  all_goals grind
end SI
end Go.Proofs.YtiidbbnclhknpaaDoor
namespace Go.Proofs.YtiidbbnclhknpaaDoor
namespace SI
set_option linter.unusedVariables false
open TS (mul_le sq_nonneg ev neg ab ab_bd q c s xx)
/-- A quarter further. -/
theorem turn_qF {N : Nat} (hN : N = 64800000) (n : Nat) : near (s (n + (N + N))) (c n) (2 * epsF) ∧ near (c (n + (N + N))) (-s n) (2 * epsF) := by
  obtain ⟨a1, a2, a3⟩ := quarterF hN
  obtain ⟨e1, e2⟩ := TS.add n (N + N)
  have b1 := s_bd n
  have b2 := c_bd n
  have b3 := s_bd (N + N)
  have z := epsF0
  have m1 := near_mul (x := c (N + N)) (y := 0) (d := epsF) (z := s n) ⟨by grind, by grind⟩ b1.1 b1.2 z
  have m2 := near_mul (x := s (N + N)) (y := 1) (d := epsF) (z := c n) ⟨by grind, by grind⟩ b2.1 b2.2 z
  have m3 := near_mul (x := c (N + N)) (y := 0) (d := epsF) (z := c n) ⟨by grind, by grind⟩ b2.1 b2.2 z
  have m4 := near_mul (x := s (N + N)) (y := 1) (d := epsF) (z := s n) ⟨by grind, by grind⟩ b1.1 b1.2 z
  unfold near at *
  rw [e1, e2]
  clear hN e1 e2
  generalize s n = x at *
  generalize c n = y at *
  generalize s (N + N) = u at *
  generalize c (N + N) = v at *
  refine ⟨⟨?_, ?_⟩, ?_, ?_⟩ <;> grind
/-- Half a turn further. -/
theorem turn_hF {N : Nat} (hN : N = 64800000) (n : Nat) : near (s (n + (N + N) + (N + N))) (-s n) (4 * epsF) ∧ near (c (n + (N + N) + (N + N))) (-c n) (4 * epsF) := by
  obtain ⟨a1, a2⟩ := turn_qF hN n
  obtain ⟨b1, b2⟩ := turn_qF hN (n + (N + N))
  have e : 2 * epsF + 2 * epsF = 4 * epsF := by grind
  constructor
  · rw [← e]; exact near_trans b1 a2
  · rw [← e]; exact near_trans b2 (near_neg a1)
/-- What lacks to a quarter. -/
theorem lack_qF {N : Nat} (hN : N = 64800000) {m k : Nat} (h : m + k = N + N) : near (s m) (c k) (2 * epsF) ∧ near (c m) (s k) (2 * epsF) := by
  obtain ⟨a1, a2, a3⟩ := quarterF hN
  obtain ⟨e1, e2⟩ := @lack m k
  rw [h] at e1 e2
  have b1 := s_bd k
  have b2 := c_bd k
  have b3 := s_bd (N + N)
  have z := epsF0
  have m1 := near_mul (x := c (N + N)) (y := 0) (d := epsF) (z := s k) ⟨by grind, by grind⟩ b1.1 b1.2 z
  have m2 := near_mul (x := s (N + N)) (y := 1) (d := epsF) (z := c k) ⟨by grind, by grind⟩ b2.1 b2.2 z
  have m3 := near_mul (x := c (N + N)) (y := 0) (d := epsF) (z := c k) ⟨by grind, by grind⟩ b2.1 b2.2 z
  have m4 := near_mul (x := s (N + N)) (y := 1) (d := epsF) (z := s k) ⟨by grind, by grind⟩ b1.1 b1.2 z
  unfold near at *
  rw [e1, e2]
  clear hN e1 e2 h
  generalize s k = x at *
  generalize c k = y at *
  generalize s (N + N) = u at *
  generalize c (N + N) = v at *
  refine ⟨⟨?_, ?_⟩, ?_, ?_⟩ <;> grind
/-- What lacks to half a turn. -/
theorem lack_hF {N : Nat} (hN : N = 64800000) {m k : Nat} (h : m + k = N + N + (N + N)) : near (s m) (s k) (8 * epsF) ∧ near (c m) (-c k) (8 * epsF) := by
  obtain ⟨a1, a2⟩ := turn_hF hN 0
  rw [Nat.zero_add, TS.s0] at a1
  rw [Nat.zero_add, TS.c0] at a2
  obtain ⟨e1, e2⟩ := @lack m k
  rw [h] at e1 e2
  have b1 := s_bd k
  have b2 := c_bd k
  have z := epsF0
  have m1 := near_mul (z := s k) a1 b1.1 b1.2 (by grind)
  have m2 := near_mul (z := s k) a2 b1.1 b1.2 (by grind)
  have m3 := near_mul (z := c k) a1 b2.1 b2.2 (by grind)
  have m4 := near_mul (z := c k) a2 b2.1 b2.2 (by grind)
  unfold near at *
  rw [e1, e2]
  clear hN e1 e2 h
  generalize s k = x at *
  generalize c k = y at *
  generalize s (N + N + (N + N)) = u at *
  generalize c (N + N + (N + N)) = v at *
  refine ⟨⟨?_, ?_⟩, ?_, ?_⟩ <;> grind
/-! ### rows a little apart -/
def tinyF : Rat := 3 / 1000000000000000
theorem s_geF (n : Nat) (h : xx n ≤ 1) : psin 7 (xx n) - tinyF ≤ s n := by
  have b := TS.b15 n h
  have d := (ev_dist (xx_nn n) h TS.B15 (0 :: lst 7 1 2) 0).2
  have k : dist TS.B15 (0 :: lst 7 1 2) ≤ tinyF := by decide +kernel
  have e : ev 0 (0 :: lst 7 1 2) (xx n) = psin 7 (xx n) := by simp only [ev, psin]; grind
  rw [e] at d
  grind
theorem s_leF (n : Nat) (h : xx n ≤ 1) : s n ≤ psin 8 (xx n) + tinyF := by
  have b := TS.b17 n h
  have d := (ev_dist (xx_nn n) h TS.B17 (0 :: lst 8 1 2) 0).1
  have k : dist TS.B17 (0 :: lst 8 1 2) ≤ tinyF := by decide +kernel
  have e : ev 0 (0 :: lst 8 1 2) (xx n) = psin 8 (xx n) := by simp only [ev, psin]; grind
  rw [e] at d
  grind
theorem c_geF (n : Nat) (h : xx n ≤ 1) : pcos 7 (xx n) - tinyF ≤ c n := by
  have b := TS.a14 n h
  have d := (ev_dist (xx_nn n) h TS.A14 (lst 7 1 1) 0).2
  have k : dist TS.A14 (lst 7 1 1) ≤ tinyF := by decide +kernel
  unfold pcos
  grind
theorem c_leF (n : Nat) (h : xx n ≤ 1) : c n ≤ pcos 8 (xx n) + tinyF := by
  have b := TS.a16 n h
  have d := (ev_dist (xx_nn n) h TS.A16 (lst 8 1 1) 0).1
  have k : dist TS.A16 (lst 8 1 1) ≤ tinyF := by decide +kernel
  unfold pcos
  grind
/-- The sine's row grows at least so fast. -/
theorem psin7_fast {a b : Rat} (h0 : 0 ≤ a) (h : a ≤ b) (h1 : b ≤ 1) : psin 7 a + 4 / 10 * (b - a) ≤ psin 7 b := by
  have g := (ev_grow h0 h h1 (lst 7 1 2).tail 2).2
  have k : slope 2 (lst 7 1 2).tail ≤ 6 / 10 := by decide +kernel
  have m := mul_le k (x := b - a) (by grind)
  have e : ∀ y, psin 7 y = y + ev 2 (lst 7 1 2).tail y := fun y => by
    show (1 : Rat) * y ^ 1 + ev 2 (lst 7 1 2).tail y = _
    rw [Rat.pow_succ, Rat.pow_zero]
    grind
  rw [e, e]
  grind
theorem psin8_fast {a b : Rat} (h0 : 0 ≤ a) (h : a ≤ b) (h1 : b ≤ 1) : psin 8 a + 4 / 10 * (b - a) ≤ psin 8 b := by
  have g := (ev_grow h0 h h1 (lst 8 1 2).tail 2).2
  have k : slope 2 (lst 8 1 2).tail ≤ 6 / 10 := by decide +kernel
  have m := mul_le k (x := b - a) (by grind)
  have e : ∀ y, psin 8 y = y + ev 2 (lst 8 1 2).tail y := fun y => by
    show (1 : Rat) * y ^ 1 + ev 2 (lst 8 1 2).tail y = _
    rw [Rat.pow_succ, Rat.pow_zero]
    grind
  rw [e, e]
  grind
theorem pcos_fast (J : Nat) (k : slope 2 (tail2 J 1) ≤ 1 / 10) {a b : Rat} (h0 : 0 ≤ a) (h : a ≤ b) (h1 : b ≤ 1) : pcos (J + 2) b + 4 / 10 * (b * b - a * a) ≤ pcos (J + 2) a := by
  rw [pcos_al, pcos_al, lr_two J, lr_two J]
  have hs := sq_mono h0 h
  have hb : b * b ≤ 1 := by have := sq_mono (show 0 ≤ b by grind) h1; grind
  have g := (ev_grow (sq_nonneg a) hs hb (tail2 J 1) 2).1
  have m := mul_le k (x := b * b - a * a) (by grind)
  have e : (((1 * (1 + 1) : Int) : Rat))⁻¹ = 1 / 2 := by decide +kernel
  rw [e]
  generalize ev 2 (tail2 J 1) (a * a) = u at *
  generalize ev 2 (tail2 J 1) (b * b) = v at *
  generalize slope 2 (tail2 J 1) = w at *
  grind
theorem pcos7_fast {a b : Rat} (h0 : 0 ≤ a) (h : a ≤ b) (h1 : b ≤ 1) : pcos 7 b + 4 / 10 * (b * b - a * a) ≤ pcos 7 a := pcos_fast 5 (by decide +kernel) h0 h h1
theorem pcos8_fast {a b : Rat} (h0 : 0 ≤ a) (h : a ≤ b) (h1 : b ≤ 1) : pcos 8 b + 4 / 10 * (b * b - a * a) ≤ pcos 8 a := pcos_fast 6 (by decide +kernel) h0 h h1
/-- Arcs are rounded well away from the true ones. -/
theorem arc_far {h : Int} (h0 : 0 ≤ h) : un (aL h) + (h : Rat) * (1 / 100000000000000000) ≤ xx (2 * h.toNat) ∧ xx (2 * h.toNat) + (h : Rat) * (1 / 100000000000000000) ≤ un (aH h) ∧ (h : Rat) * (24 / 1000000000) ≤ xx (2 * h.toNat) ∧ xx (2 * h.toNat) ≤ (h : Rat) * (25 / 1000000000) := by
  obtain ⟨a1, _⟩ := down_bd (h * 785398163) (m := 32400000) (by decide)
  obtain ⟨b1, _⟩ := up_bd (h * 785398164) (m := 32400000) (by decide)
  rw [cast_mul] at a1 b1
  have e : ((2 * h.toNat : Nat) : Rat) = 2 * (h : Rat) := by
    have : ((h.toNat : Nat) : Int) = h := Int.toNat_of_nonneg h0
    have e2 : ((h.toNat : Nat) : Rat) = (h : Rat) := by
      rw [← Rat.intCast_natCast, this]
    push_cast
    rw [e2]
  have hh := cast_ge h0
  have hh : (0 : Rat) ≤ (h : Rat) := by simpa using hh
  have k1 : (785398163 : Rat) + 1000000000 * 32400000 * (1 / 100000000000000000) ≤ q * 2 * 1000000000 * 32400000 := by decide +kernel
  have k2 : q * 2 * 1000000000 * 32400000 + 1000000000 * 32400000 * (1 / 100000000000000000) ≤ (785398164 : Rat) := by decide +kernel
  have k3 : (24 / 1000000000 : Rat) ≤ q * 2 := by decide +kernel
  have k4 : q * 2 ≤ (25 / 1000000000 : Rat) := by decide +kernel
  have g1 := mul_le k1 (x := (h : Rat)) hh
  have g2 := mul_le k2 (x := (h : Rat)) hh
  have g3 := mul_le k3 (x := (h : Rat)) hh
  have g4 := mul_le k4 (x := (h : Rat)) hh
  unfold xx
  rw [e]
  change (aL h : Rat) * ((32400000 : Int) : Rat) ≤ (h : Rat) * ((785398163 : Int) : Rat) at a1
  change (h : Rat) * ((785398164 : Int) : Rat) ≤ (aH h : Rat) * ((32400000 : Int) : Rat) at b1
  have c1 : ((32400000 : Int) : Rat) = 32400000 := rfl
  have c2 : ((785398163 : Int) : Rat) = 785398163 := rfl
  have c3 : ((785398164 : Int) : Rat) = 785398164 := rfl
  rw [c1, c2] at a1
  rw [c1, c3] at b1
  have u1 := un_mul (aL h)
  have u2 := un_mul (aH h)
  generalize (aL h : Rat) = u at *
  generalize (aH h : Rat) = v at *
  generalize un (aL h) = y at *
  generalize un (aH h) = z at *
  generalize (h : Rat) = w at *
  refine ⟨?_, ?_, ?_, ?_⟩
  · refine le_of_mul (m := 1000000000 * 32400000) (by decide +kernel) ?_
    grind
  · refine le_of_mul (m := 1000000000 * 32400000) (by decide +kernel) ?_
    grind
  · grind
  · grind
end SI
end Go.Proofs.YtiidbbnclhknpaaDoor
namespace Go.Proofs.YtiidbbnclhknpaaDoor
namespace SI
set_option linter.unusedVariables false
open TS (mul_le sq_nonneg ev neg ab ab_bd q c s xx)
/-! ### sines -/
theorem rowS_one {a : Int} (h0 : 1 ≤ a) (h1 : a ≤ 31622) : rowS a = (a - 1, a + 1) := by
  have p : 1 ≤ a * a := by have := Int.mul_le_mul h0 h0 (by decide) (by omega); omega
  have p2 : a * a ≤ 999950884 := by have := Int.mul_le_mul h1 h1 (by omega) (by decide); omega
  have t1 : tU a a = 1 := by unfold tU NM.up; generalize a * a = z at *; omega
  have t2 : tD a a = 0 := by unfold tD NM.down; generalize a * a = z at *; omega
  have t3 : tU a 1 = 1 := by unfold tU NM.up; omega
  have t4 : tD a 0 = 0 := by unfold tD NM.down; omega
  unfold rowS
  rw [row_stop (by omega) (by decide) ?_ ?_]
  · rw [t1, t3]; decide
  · rw [t2, t4]; decide
theorem psin7_le {y : Rat} (h0 : 0 ≤ y) (h1 : y ≤ 785398164 / 1000000000) : psin 8 y ≤ y ∧ y - 1 / 6 * (y * y * y) ≤ psin 7 y := by
  have r0 := sq_nonneg y
  have r1 : y * y ≤ 1 := by have := sq_mono h0 h1; have k : (785398164 / 1000000000 : Rat) * (785398164 / 1000000000) ≤ 1 := by decide +kernel
                            grind
  have e8 := al_lst y 8 1 1 2
  have e7 := al_lst y 7 1 1 2
  have p1 : (1 : Rat) * y ^ 1 = y := by rw [Rat.pow_succ, Rat.pow_zero]; grind
  rw [p1] at e8 e7
  have b8 := (al_bd r0 r1 8 y 2 h0 (by decide)).2
  have u7 : al (y * y) 7 y 2 = y - al (y * y) 6 (y * (y * y) / (((2 : Int) * (2 + 1) : Int) : Rat)) (2 + 2) := rfl
  have c6 : (((2 : Int) * (2 + 1) : Int) : Rat) = 6 := by decide +kernel
  rw [c6] at u7
  have n3 : 0 ≤ y * (y * y) := Rat.mul_nonneg h0 r0
  have i6 : (6 : Rat)⁻¹ = 1 / 6 := by decide +kernel
  have b6 := (al_bd r0 r1 6 (y * (y * y) / 6) (2 + 2) (by rw [Rat.div_def, i6]; grind) (by decide)).2
  rw [Rat.div_def, i6] at b6 u7
  constructor
  · show ev 1 (lst 8 1 2) y ≤ y
    rw [← e8]; exact b8
  · show y - 1 / 6 * (y * y * y) ≤ ev 1 (lst 7 1 2) y
    rw [← e7, u7]
    rw [show y * y * y = y * (y * y) by grind]
    generalize al (y * y) 6 (y * (y * y) * (1 / 6)) (2 + 2) = z at *
    generalize y * (y * y) = w at *
    grind
structure EncF (L H : Int) (v : Rat) : Prop where
  lo : (L : Rat) ≤ 1000000000 * v
  hi : 1000000000 * v ≤ (H : Rat)
theorem small_encF {h : Int} (h0 : 1 ≤ h) (h1 : h ≤ 32400000) : EncF (smL h) (smH h) (s (2 * h.toNat)) := by
  obtain ⟨a0, a1, a2, a3⟩ := arc_bd (h := h) (by omega) h1
  obtain ⟨y0, y1, y2, y3, y4⟩ := arc_of (h := h) (by omega) h1
  obtain ⟨f1, f2, f3, f4⟩ := arc_far (h := h) (by omega)
  have x1 : xx (2 * h.toNat) ≤ 1 := by grind
  have x0 := xx_nn (2 * h.toNat)
  have s1 := s_geF _ x1
  have s2 := s_leF _ x1
  have um := un_mul (aL h)
  have uM := un_mul (aH h)
  have hc := cast_ge h0
  have c1 : ((1 : Int) : Rat) = 1 := rfl
  have c0 : ((0 : Int) : Rat) = 0 := rfl
  rw [c1] at hc
  by_cases z : h ≤ 1000
  · -- the row stops at once, a whole part further
    have l0 := aL_pos h0
    have lm : aH h ≤ 31622 := by unfold aH NM.up; omega
    have e1 := rowS_one l0 (show aL h ≤ 31622 by omega)
    have e2 := rowS_one (show 1 ≤ aH h by omega) lm
    have hz := cast_ge z
    have c9 : ((1000 : Int) : Rat) = 1000 := rfl
    rw [c9] at hz
    have xs : xx (2 * h.toNat) ≤ 1 / 10000 := by grind
    obtain ⟨q8, q7⟩ := psin7_le x0 (by grind)
    have sq := sq_mono x0 xs
    have cu := mul_le sq x0
    have tn : (1000000000 : Rat) * tinyF ≤ 1 / 1000 := by decide +kernel
    have eL : smL h = aL h - 1 := by unfold smL; rw [e1]; show max (aL h - 1) 0 = _; omega
    have eH : smH h = aH h + 1 := by unfold smH; rw [e2]
    rw [eL, eH]
    have k1 : ((aL h - 1 : Int) : Rat) = (aL h : Rat) - 1 := by push_cast; rfl
    have k2 : ((aH h + 1 : Int) : Rat) = (aH h : Rat) + 1 := by push_cast; rfl
    refine ⟨?_, ?_⟩
    · rw [k1]
      generalize xx (2 * h.toNat) = x at *
      have : x * x * x ≤ 1 / 1000000000000 := by grind
      generalize x * x * x = w at *
      clear sq cu
      grind
    · rw [k2]
      generalize xx (2 * h.toNat) = x at *
      clear sq cu q7
      grind
  · -- the arcs are well apart
    have hz := cast_ge (show 1000 ≤ h by omega)
    have c9 : ((1000 : Int) : Rat) = 1000 := rfl
    rw [c9] at hz
    obtain ⟨r1, _, _, _⟩ := rowS_enc a0 (by omega) 6 (by decide)
    obtain ⟨_, v2, _, _⟩ := rowS_enc (show 0 ≤ aH h by omega) a2 7 (by decide)
    have m1 := psin7_fast y0 y1 x1
    have m3 := psin8_fast x0 y2 (by grind)
    have tt : tinyF ≤ 4 / 10 * (1000 * (1 / 100000000000000000)) := by decide +kernel
    have nn : (0 : Rat) ≤ s (2 * h.toNat) := by
      have m4 := psin7_mono (show (0 : Rat) ≤ 0 by grind) y0 (by grind)
      rw [psin_zero] at m4
      grind
    refine ⟨?_, ?_⟩
    · rcases (show smL h = (rowS (aL h)).1 ∨ smL h = 0 by unfold smL; omega) with e | e
      · rw [e]
        generalize psin 7 (un (aL h)) = p1 at *
        generalize psin 7 (xx (2 * h.toNat)) = p2 at *
        generalize s (2 * h.toNat) = sv at *
        generalize xx (2 * h.toNat) = x at *
        clear m3 v2 s2
        grind
      · rw [e, c0]
        grind
    · show 1000000000 * s (2 * h.toNat) ≤ ((rowS (aH h)).2 : Rat)
      generalize psin 8 (un (aH h)) = p1 at *
      generalize psin 8 (xx (2 * h.toNat)) = p2 at *
      generalize s (2 * h.toNat) = sv at *
      generalize xx (2 * h.toNat) = x at *
      clear m1 r1 s1
      grind
end SI
end Go.Proofs.YtiidbbnclhknpaaDoor
namespace Go.Proofs.YtiidbbnclhknpaaDoor
namespace SI
set_option linter.unusedVariables false
open TS (mul_le sq_nonneg ev neg ab ab_bd q c s xx)
/-! ### cosines -/
theorem rowC_two' {x : Int} (h1 : 2000000000 ≤ x * x) (h2 : x * x ≤ 30000000000000) : (rowC x).2 = 1000000000 - NM.down (tD x x) 2 + 1 := by
  unfold rowC
  have t1 : 2 ≤ tU x x ∧ tU x x ≤ 30000 := by unfold tU NM.up; generalize x * x = z at *; omega
  have t2 : 2 ≤ tD x x ∧ tD x x ≤ 30000 := by unfold tD NM.down; generalize x * x = z at *; omega
  have e2 : (1 : Int) * (1 + 1) = 2 := by decide
  have e12 : (1 + 2 : Int) * (1 + 2 + 1) = 12 := by decide
  rw [row_on (by decide) (by decide) ?_]
  · rw [tU9, tD9, e2]
    have u1 : 1 ≤ NM.up (tU x x) 2 ∧ NM.up (tU x x) 2 ≤ 15000 := by unfold NM.up; omega
    have d1 : 1 ≤ NM.down (tD x x) 2 ∧ NM.down (tD x x) 2 ≤ 15000 := by unfold NM.down; omega
    have m1 := Int.mul_le_mul u1.2 t1.2 (by omega) (by decide)
    have m2 : 1 ≤ NM.up (tU x x) 2 * tU x x := by have := Int.mul_le_mul u1.1 t1.1 (by omega) (by omega); omega
    have m3 := Int.mul_le_mul d1.2 t2.2 (by omega) (by decide)
    have m4 : 0 ≤ NM.down (tD x x) 2 * tD x x := Int.mul_nonneg (by omega) (by omega)
    have s1 : NM.up (tU (NM.up (tU x x) 2) (tU x x)) ((1 + 2) * (1 + 2 + 1)) = 1 := by
      rw [e12]
      rw [show tU (NM.up (tU x x) 2) (tU x x) = NM.up (NM.up (tU x x) 2 * tU x x) 1000000000 from rfl]
      generalize NM.up (tU x x) 2 * tU x x = z at *
      unfold NM.up
      omega
    have s2 : NM.down (tD (NM.down (tD x x) 2) (tD x x)) ((1 + 2) * (1 + 2 + 1)) = 0 := by
      rw [e12]
      rw [show tD (NM.down (tD x x) 2) (tD x x) = NM.down (NM.down (tD x x) 2 * tD x x) 1000000000 from rfl]
      generalize NM.down (tD x x) 2 * tD x x = z at *
      unfold NM.down
      omega
    rw [row_stop (by omega) (by decide) s1 s2]
  · rw [tU9, tD9, e2]
    intro hc
    have := hc.2
    unfold NM.down at this
    omega
theorem s_lin (n : Nat) : s n ≤ xx n ∧ -xx n ≤ s n := by
  induction n with
  | zero => rw [TS.s0, TS.xx0]; constructor <;> grind
  | succ n ih =>
    obtain ⟨i1, i2⟩ := ih
    have x0 := xx_nn n
    have b := c_bd n
    have q0 := TS.q_pos
    have p0 := TS.p_pos
    have p1 := TS.p_le
    have e := TS.xx_succ n
    rw [TS.s_succ, e]
    have g1 := mul_le b.1 (x := q) (by grind)
    have g2 := mul_le b.2 (x := q) (by grind)
    have m1 := mul_le i1 (x := TS.p) (by grind)
    have m2 := mul_le i2 (x := TS.p) (by grind)
    have m3 := mul_le p1 x0
    generalize xx n = x at *
    generalize s n = y at *
    generalize c n = z at *
    generalize TS.p = p at *
    generalize q = r at *
    constructor <;> grind
theorem c_quad (m : Nat) : 1 - 2 * (xx m * xx m) ≤ c (m + m) := by
  obtain ⟨_, e2⟩ := TS.add m m
  have l := TS.len m
  obtain ⟨a, b⟩ := s_lin m
  have g := rmul_bd (x := s m) (y := s m) (A := xx m) (B := xx m) b a b a
  rw [e2]
  grind
theorem xx_dbl (m : Nat) : xx (m + m) = 2 * xx m := by
  unfold xx
  have : ((m + m : Nat) : Rat) = (m : Rat) + (m : Rat) := by push_cast; rfl
  rw [this]
  grind
theorem pcos8_le {y : Rat} (h0 : 0 ≤ y) (h1 : y ≤ 785398164 / 1000000000) : pcos 8 y ≤ 1 - 1 / 2 * (y * y) + (y * y) * (y * y) := by
  have r0 := sq_nonneg y
  have r1 : y * y ≤ 1 := by
    have := sq_mono h0 h1
    have k : (785398164 / 1000000000 : Rat) * (785398164 / 1000000000) ≤ 1 := by decide +kernel
    grind
  rw [pcos_al]
  have h2 := al_lr (y * y) 8 1 1
  rw [← show (1 : Rat) * ev 0 (lr 8 1) (y * y) = ev 0 (lr 8 1) (y * y) by grind, ← h2]
  have e8 : al (y * y) 8 1 1 = 1 - al (y * y) 7 (1 * (y * y) / (((1 : Int) * (1 + 1) : Int) : Rat)) (1 + 2) := rfl
  have c2 : (((1 : Int) * (1 + 1) : Int) : Rat) = 2 := by decide +kernel
  rw [e8, c2]
  have i2 : (2 : Rat)⁻¹ = 1 / 2 := by decide +kernel
  rw [Rat.div_def, i2]
  have e7 : al (y * y) 7 (1 * (y * y) * (1 / 2)) (1 + 2) = 1 * (y * y) * (1 / 2) - al (y * y) 6 (1 * (y * y) * (1 / 2) * (y * y) / ((((1 + 2) : Int) * ((1 + 2) + 1) : Int) : Rat)) (1 + 2 + 2) := rfl
  have c12 : ((((1 + 2) : Int) * ((1 + 2) + 1) : Int) : Rat) = 12 := by decide +kernel
  rw [e7, c12]
  have i12 : (12 : Rat)⁻¹ = 1 / 12 := by decide +kernel
  rw [show ∀ z : Rat, z / 12 = z * (1 / 12) from fun z => by rw [Rat.div_def, i12]]
  have n4 := Rat.mul_nonneg r0 r0
  have bd := (al_bd r0 r1 6 (1 * (y * y) * (1 / 2) * (y * y) * (1 / 12)) (1 + 2 + 2) (by grind) (by decide)).2
  generalize al (y * y) 6 (1 * (y * y) * (1 / 2) * (y * y) * (1 / 12)) (1 + 2 + 2) = w at *
  generalize y * y = r at *
  grind
/-- Squares that are so far apart. -/
theorem sq_apart {h x y d : Rat} (d0 : 0 ≤ h) (h1 : h * (24 / 1000000000) ≤ x) (h2 : x + h * (1 / 100000000000000000) ≤ y) (z : 200000 ≤ h) : 3 / 1000000000000000 ≤ 4 / 10 * (y * y - x * x) := by
  have a : 0 ≤ (y - x - h * (1 / 100000000000000000)) * (y + x) := Rat.mul_nonneg (by grind) (by grind)
  have b : 0 ≤ h * (y + x - 2 * (h * (24 / 1000000000))) := Rat.mul_nonneg d0 (by grind)
  have c := sq_mono (show (0 : Rat) ≤ 200000 by decide) z
  grind
theorem near_encF {h : Int} (h0 : 1 ≤ h) (h1 : h ≤ 32400000) : EncF (nrL h) (nrH h) (c (2 * h.toNat)) := by
  obtain ⟨a0, a1, a2, a3⟩ := arc_bd (h := h) (by omega) h1
  obtain ⟨y0, y1, y2, y3, y4⟩ := arc_of (h := h) (by omega) h1
  obtain ⟨f1, f2, f3, f4⟩ := arc_far (h := h) (by omega)
  have x1 : xx (2 * h.toNat) ≤ 1 := by grind
  have x0 := xx_nn (2 * h.toNat)
  have s1 := c_geF _ x1
  have s2 := c_leF _ x1
  have um := un_mul (aL h)
  have uM := un_mul (aH h)
  have l0 := aL_pos h0
  have c9 : ((1000000000 : Int) : Rat) = 1000000000 := rfl
  have cb := (c_bd (2 * h.toNat)).1
  have hh := cast_ge (show 0 ≤ h by omega)
  have c0 : ((0 : Int) : Rat) = 0 := rfl
  rw [c0] at hh
  refine ⟨?_, ?_⟩
  · by_cases z : aH h * aH h < 2000000000
    · rw [(near_top h0 h1 z).2]
      have k := c_quad h.toNat
      have xd := xx_dbl h.toNat
      have e : h.toNat + h.toNat = 2 * h.toNat := by omega
      rw [e] at k xd
      have zz := cast_ge (show aH h * aH h ≤ 2000000000 by omega)
      rw [cast_mul] at zz
      have c2 : ((2000000000 : Int) : Rat) = 2000000000 := rfl
      have c3 : ((999999999 : Int) : Rat) = 999999999 := rfl
      rw [c2] at zz
      rw [c3]
      have sq := sq_mono x0 y2
      rw [← uM] at zz
      generalize c (2 * h.toNat) = cv at *
      generalize xx (2 * h.toNat) = x at *
      generalize xx h.toNat = w at *
      generalize un (aH h) = y at *
      clear s1 s2 f1 f2 f3 f4 y4 um uM y1
      have e1 : x * x = 4 * (w * w) := by rw [xd]; grind
      have e2 : y * 1000000000 * (y * 1000000000) = y * y * 1000000000000000000 := by grind
      rw [e2] at zz
      clear e2 xd
      generalize y * y = yy at *
      generalize x * x = xq at *
      generalize w * w = wq at *
      grind
    · by_cases g : h ≤ 200000
      · have := near_low h0 g (by omega)
        grind
      · have hz := cast_ge (show 200000 ≤ h by omega)
        have ch : ((200000 : Int) : Rat) = 200000 := rfl
        rw [ch] at hz
        obtain ⟨r1, _, _, _⟩ := rowC_enc (show 0 ≤ aH h by omega) a2 6 (by decide)
        have m := pcos7_fast x0 y2 (by grind)
        have sa := sq_apart (d := 0) hh f3 f2 hz
        show ((rowC (aH h)).1 : Rat) ≤ _
        unfold tinyF at s1
        generalize pcos 7 (un (aH h)) = p1 at *
        generalize pcos 7 (xx (2 * h.toNat)) = p2 at *
        generalize c (2 * h.toNat) = cv at *
        generalize un (aH h) * un (aH h) - xx (2 * h.toNat) * xx (2 * h.toNat) = d at *
        clear f1 f2 f3 f4 s2
        grind
  · have key : 1000000000 * c (2 * h.toNat) ≤ ((rowC (aL h)).2 : Rat) := by
      by_cases z : aL h * aL h < 2000000000
      · rw [rowC_one l0 z]
        show _ ≤ ((1000000001 : Int) : Rat)
        have c3 : ((1000000001 : Int) : Rat) = 1000000001 := rfl
        rw [c3]
        grind
      · by_cases g : h ≤ 200000
        · have b : aL h ≤ 4848137 := by unfold aL NM.down; omega
          have q1 := sq_int (show 0 ≤ aL h by omega) b
          rw [rowC_two' (by omega) (by omega)]
          obtain ⟨t1, _⟩ := down_bd (aL h * aL h) (m := 1000000000) (by decide)
          obtain ⟨t2, _⟩ := down_bd (tD (aL h) (aL h)) (m := 2) (by decide)
          rw [cast_mul] at t1
          have c2 : ((2 : Int) : Rat) = 2 := rfl
          rw [c9] at t1
          rw [c2] at t2
          change (tD (aL h) (aL h) : Rat) * 1000000000 ≤ _ at t1
          have en : ((1000000000 - NM.down (tD (aL h) (aL h)) 2 + 1 : Int) : Rat) = 1000000000 - (NM.down (tD (aL h) (aL h)) 2 : Rat) + 1 := by push_cast; rfl
          rw [en]
          have pl := pcos8_le x0 (by grind)
          have hz := cast_ge g
          have ch : ((200000 : Int) : Rat) = 200000 := rfl
          rw [ch] at hz
          have xs : xx (2 * h.toNat) ≤ 5 / 1000 := by grind
          have sq := sq_mono x0 xs
          have sq2 := sq_mono y0 y1
          have n2 := sq_nonneg (xx (2 * h.toNat))
          have sq4 := sq_mono n2 sq
          have tn : (1000000000 : Rat) * tinyF ≤ 1 / 1000 := by decide +kernel
          rw [← um] at t1
          clear en q1 f1 f2 f3 f4 y4 s1 xs hz um uM y1 y2 y3
          generalize (NM.down (tD (aL h) (aL h)) 2 : Rat) = D1 at *
          generalize (tD (aL h) (aL h) : Rat) = T1 at *
          generalize pcos 8 (xx (2 * h.toNat)) = p1 at *
          generalize c (2 * h.toNat) = cv at *
          have e2 : un (aL h) * 1000000000 * (un (aL h) * 1000000000) = un (aL h) * un (aL h) * 1000000000000000000 := by grind
          rw [e2] at t1
          clear e2
          generalize xx (2 * h.toNat) * xx (2 * h.toNat) = xq at *
          generalize un (aL h) * un (aL h) = yq at *
          generalize xq * xq = x4 at *
          grind
        · have hz := cast_ge (show 200000 ≤ h by omega)
          have ch : ((200000 : Int) : Rat) = 200000 := rfl
          rw [ch] at hz
          obtain ⟨_, v2, _, _⟩ := rowC_enc a0 (by omega) 7 (by decide)
          have m := pcos8_fast y0 y1 x1
          have sa : 3 / 1000000000000000 ≤ 4 / 10 * (xx (2 * h.toNat) * xx (2 * h.toNat) - un (aL h) * un (aL h)) := by
            have a : 0 ≤ (xx (2 * h.toNat) - un (aL h) - (h : Rat) * (1 / 100000000000000000)) * (xx (2 * h.toNat) + un (aL h)) := Rat.mul_nonneg (by grind) (by grind)
            have b : 0 ≤ (h : Rat) * (xx (2 * h.toNat) + un (aL h) - (h : Rat) * (24 / 1000000000)) := Rat.mul_nonneg hh (by grind)
            have k := sq_mono (show (0 : Rat) ≤ 200000 by decide) hz
            generalize xx (2 * h.toNat) = x at *
            generalize un (aL h) = y at *
            generalize (h : Rat) = w at *
            clear f1 f2 f3 f4 m v2 s1 s2 y4 um uM y1 y2
            grind
          unfold tinyF at s2
          generalize pcos 8 (un (aL h)) = p1 at *
          generalize pcos 8 (xx (2 * h.toNat)) = p2 at *
          generalize c (2 * h.toNat) = cv at *
          generalize xx (2 * h.toNat) * xx (2 * h.toNat) - un (aL h) * un (aL h) = d at *
          clear f1 f2 f3 f4 s1
          grind
    rcases (show nrH h = (rowC (aL h)).2 ∨ nrH h = 1000000000 by unfold nrH; omega) with e | e
    · rw [e]; exact key
    · rw [e, c9]; grind
end SI
end Go.Proofs.YtiidbbnclhknpaaDoor
namespace Go.Proofs.YtiidbbnclhknpaaDoor
namespace SI
set_option linter.unusedVariables false
open TS (mul_le sq_nonneg ev neg ab ab_bd q c s xx)
theorem qu_encF {h : Int} (h0 : 0 ≤ h) (h1 : h ≤ 64800000) : In (quL h) (quH h) (s (2 * h.toNat)) (1 / 40000000000) := by
  obtain ⟨N, hN⟩ : ∃ N : Nat, N = 64800000 := ⟨_, rfl⟩
  have c0 : ((0 : Int) : Rat) = 0 := rfl
  have c5 : ((500000000 : Int) : Rat) = 500000000 := rfl
  have c9 : ((1000000000 : Int) : Rat) = 1000000000 := rfl
  unfold quL quH
  by_cases z0 : h = 0
  · rw [if_pos z0, if_pos z0]
    have e : 2 * h.toNat = 0 := by omega
    rw [e, TS.s0]
    exact ⟨by rw [c0]; grind, by rw [c0]; grind⟩
  · rw [if_neg z0, if_neg z0]
    by_cases z1 : h = 21600000
    · rw [if_pos z1, if_pos z1]
      obtain ⟨p1, p2⟩ := half_ptF (n := 2 * h.toNat) (by omega)
      unfold epsF at p1 p2
      generalize s (2 * h.toNat) = v at *
      exact ⟨by rw [c5]; grind, by rw [c5]; grind⟩
    · rw [if_neg z1, if_neg z1]
      by_cases z2 : h = 64800000
      · rw [if_pos z2, if_pos z2]
        obtain ⟨a1, _, _⟩ := quarterF hN
        have e : 2 * h.toNat = N + N := by omega
        rw [e]
        have b := (s_bd (N + N)).1
        have z := epsF0
        unfold epsF at a1
        generalize s (N + N) = v at *
        exact ⟨by rw [c9]; grind, by rw [c9]; grind⟩
      · rw [if_neg z2, if_neg z2]
        by_cases z3 : h ≤ 32400000
        · rw [if_pos z3, if_pos z3]
          obtain ⟨l, u⟩ := small_encF (h := h) (by omega) z3
          generalize s (2 * h.toNat) = v at *
          exact ⟨by grind, by grind⟩
        · rw [if_neg z3, if_neg z3]
          obtain ⟨l, u⟩ := near_encF (h := 64800000 - h) (by omega) (by omega)
          obtain ⟨⟨q1, q2⟩, _⟩ := lack_qF hN (m := 2 * h.toNat) (k := 2 * (64800000 - h).toNat) (by omega)
          unfold epsF at q1 q2
          generalize s (2 * h.toNat) = v at *
          generalize c (2 * (64800000 - h).toNat) = w at *
          exact ⟨by grind, by grind⟩
theorem ha_encF {h : Int} (h0 : 0 ≤ h) (h1 : h ≤ 129600000) : In (haL h) (haH h) (s (2 * h.toNat)) (1 / 20000000000) := by
  obtain ⟨N, hN⟩ : ∃ N : Nat, N = 64800000 := ⟨_, rfl⟩
  unfold haL haH
  by_cases z : 64800000 < h
  · rw [if_pos z, if_pos z]
    obtain ⟨l, u⟩ := qu_encF (h := 129600000 - h) (by omega) (by omega)
    obtain ⟨⟨q1, q2⟩, _⟩ := lack_hF hN (m := 2 * h.toNat) (k := 2 * (129600000 - h).toNat) (by omega)
    unfold epsF at q1 q2
    generalize s (2 * h.toNat) = v at *
    generalize s (2 * (129600000 - h).toNat) = w at *
    exact ⟨by grind, by grind⟩
  · rw [if_neg z, if_neg z]
    obtain ⟨l, u⟩ := qu_encF h0 (by omega)
    generalize s (2 * h.toNat) = v at *
    exact ⟨by grind, by grind⟩
/-- The span of a sine has it, nearly. -/
theorem si_encF (h : Int) : In (siL h) (siH h) (S h) (1 / 10000000000) := by
  obtain ⟨N, hN⟩ : ∃ N : Nat, N = 64800000 := ⟨_, rfl⟩
  have b0 : 0 ≤ h % 259200000 := Int.emod_nonneg _ (by decide)
  have b1 : h % 259200000 < 259200000 := Int.emod_lt_of_pos _ (by decide)
  unfold siL siH S
  generalize h % 259200000 = g at *
  by_cases z : 129600000 ≤ g
  · rw [if_pos z, if_pos z]
    obtain ⟨l, u⟩ := ha_encF (h := g - 129600000) (by omega) (by omega)
    obtain ⟨⟨q1, q2⟩, _⟩ := turn_hF hN (2 * (g - 129600000).toNat)
    have e : 2 * (g - 129600000).toNat + (N + N) + (N + N) = 2 * g.toNat := by omega
    rw [e] at q1 q2
    unfold epsF at q1 q2
    have cn : ∀ a : Int, ((-a : Int) : Rat) = -(a : Rat) := fun a => by push_cast; rfl
    generalize s (2 * g.toNat) = v at *
    generalize s (2 * (g - 129600000).toNat) = w at *
    exact ⟨by rw [cn]; grind, by rw [cn]; grind⟩
  · rw [if_neg z, if_neg z]
    obtain ⟨l, u⟩ := ha_encF b0 (by omega)
    generalize s (2 * g.toNat) = v at *
    exact ⟨by grind, by grind⟩
end SI
end Go.Proofs.YtiidbbnclhknpaaDoor
namespace Go.Proofs.YtiidbbnclhknpaaDoor
namespace SI
set_option linter.unusedVariables false
open TS (mul_le sq_nonneg ev neg ab ab_bd q c s xx)
theorem xx_at {n : Nat} (h0 : 1 ≤ n) (h1 : n ≤ 64800000) : 12 / 1000000000 ≤ xx n ∧ xx n ≤ 785398164 / 1000000000 := by
  have a := TS.cast_le h0
  have b := TS.cast_le h1
  have k1 : (12 / 1000000000 : Rat) ≤ q := by decide +kernel
  have k2 : q * 64800000 ≤ (785398164 / 1000000000 : Rat) := by decide +kernel
  have q0 := TS.q_pos
  have g1 := mul_le a (x := q) (by grind)
  have g2 := mul_le b (x := q) (by grind)
  have c1 : ((1 : Nat) : Rat) = 1 := rfl
  have c2 : ((64800000 : Nat) : Rat) = 64800000 := rfl
  rw [c1] at g1
  rw [c2] at g2
  unfold xx
  generalize q = r at *
  constructor <;> grind
theorem s_pos0 {n : Nat} (h0 : 1 ≤ n) (h1 : n ≤ 64800000) : 1 / 100000000 ≤ s n := by
  obtain ⟨a, b⟩ := xx_at h0 h1
  have g := s_geF n (by grind)
  have l := (psin7_le (show 0 ≤ xx n by grind) b).2
  have sq := sq_mono (show 0 ≤ xx n by grind) b
  have k : (785398164 / 1000000000 : Rat) * (785398164 / 1000000000) ≤ 62 / 100 := by decide +kernel
  have cu := mul_le (show xx n * xx n ≤ 62 / 100 by grind) (show 0 ≤ xx n by grind)
  unfold tinyF at g
  generalize xx n = x at *
  generalize x * x * x = w at *
  grind
theorem c_pos0 {n : Nat} (h1 : n ≤ 64800000) : 1 / 2 ≤ c n := by
  by_cases z : n = 0
  · rw [z, TS.c0]; grind
  · obtain ⟨a, b⟩ := xx_at (n := n) (by omega) h1
    have g := c_geF n (by grind)
    have k2 := pcos7_mono (show 0 ≤ xx n by grind) b (by decide +kernel)
    have k3 : (6 / 10 : Rat) ≤ pcos 7 (785398164 / 1000000000) := by decide +kernel
    unfold tinyF at g
    grind
/-- A sine of some steps, up to a quarter. -/
theorem s_pos {n : Nat} (h0 : 1 ≤ n) (h1 : n ≤ 129600000) : 1 / 100000000 ≤ s n := by
  by_cases z : n ≤ 64800000
  · exact s_pos0 h0 z
  · obtain ⟨⟨_, b⟩, _⟩ := lack_qF rfl (m := n) (k := 129600000 - n) (by omega)
    have p := c_pos0 (n := 129600000 - n) (by omega)
    unfold epsF at b
    grind
theorem c_pos {n : Nat} (h1 : n + 1 ≤ 129600000) : 9 / 1000000000 ≤ c n := by
  obtain ⟨_, _, b⟩ := lack_qF rfl (m := n) (k := 129600000 - n) (by omega)
  have p := s_pos (n := 129600000 - n) (by omega) (by omega)
  unfold epsF at b
  grind
/-- A sine of some steps, up to half a turn. -/
theorem s_pos2 {n : Nat} (h0 : 1 ≤ n) (h1 : n + 1 ≤ 259200000) : 9 / 1000000000 ≤ s n := by
  by_cases z : n ≤ 129600000
  · have := s_pos h0 z
    grind
  · obtain ⟨⟨_, b⟩, _⟩ := lack_hF rfl (m := n) (k := 259200000 - n) (by omega)
    have p := s_pos (n := 259200000 - n) (by omega) (by omega)
    unfold epsF at b
    grind
/-- Two sines. -/
theorem s_diff {m k : Nat} (h : m ≤ k) : s (k + k) - s (m + m) = 2 * (c (m + k) * s (k - m)) := by
  obtain ⟨e1, _⟩ := TS.add (m + k) (k - m)
  have e2 := (@lack (m + m) (k - m)).1
  rw [show m + m + (k - m) = m + k by omega] at e2
  rw [show m + k + (k - m) = k + k by omega] at e1
  rw [e1, e2]
  grind
theorem S_nn {h : Int} (h0 : 0 ≤ h) (h1 : h < 259200000) : S h = s (h.toNat + h.toNat) := by
  unfold S
  rw [show h % 259200000 = h by omega]
  congr 1
  omega
theorem S_strict {h k : Int} (h0 : 0 ≤ h) (hk : h < k) (k1 : k ≤ 64800000) : S h + 1 / 10000000000000000 ≤ S k := by
  rw [S_nn h0 (by omega), S_nn (by omega) (by omega)]
  have d := s_diff (m := h.toNat) (k := k.toNat) (by omega)
  have a := c_pos (n := h.toNat + k.toNat) (by omega)
  have b := s_pos (n := k.toNat - h.toNat) (by omega) (by omega)
  have m := Rat.mul_nonneg (show 0 ≤ c (h.toNat + k.toNat) - 9 / 1000000000 by grind) (show 0 ≤ s (k.toNat - h.toNat) - 1 / 100000000 by grind)
  generalize c (h.toNat + k.toNat) = x at *
  generalize s (k.toNat - h.toNat) = y at *
  grind
/-- Of two angles of halves of a part the greater one's sine ends above where the lesser one's begins. -/
theorem si_strictH {h k : Int} (h0 : 0 ≤ h) (hk : h < k) (k1 : k ≤ 64800000) : siL h < siH k := by
  have a := (si_encF h).lo
  have b := (si_encF k).hi
  have m := S_strict h0 hk k1
  have : ¬ siH k ≤ siL h := fun z => by
    have := cast_ge z
    grind
  omega
end SI
end Go.Proofs.YtiidbbnclhknpaaDoor
namespace Go.Proofs.YtiidbbnclhknpaaDoor
namespace SI
set_option linter.unusedVariables false
/-- What is below 0, or above one, left out. -/
def clp (x : Int) : Int := min (max x 0) 1000000000
theorem clp_bd (x : Int) : 0 ≤ clp x ∧ clp x ≤ 1000000000 := by unfold clp; omega
theorem clp_mono {x y : Int} (h : x ≤ y) : clp x ≤ clp y := by unfold clp; omega
theorem clp_id {x : Int} (h0 : 0 ≤ x) (h1 : x ≤ 1000000000) : clp x = x := by unfold clp; omega
/-- The square of the sine of so many halves. -/
def oL (x : Int) : Int := clp (SM.mulLo (siL x) (siH x) (siL x) (siH x))
def oH (x : Int) : Int := clp (SM.mulHi (siL x) (siH x) (siL x) (siH x))
/-- The cosine of an angle up. -/
def kL (a : Int) : Int := clp (siL (2 * a + 64800000))
def kH (a : Int) : Int := clp (siH (2 * a + 64800000))
def bL (a b : Int) : Int := clp (SM.mulLo (kL a) (kH a) (kL b) (kH b))
def bH (a b : Int) : Int := clp (SM.mulHi (kL a) (kH a) (kL b) (kH b))
def tL (a b x : Int) : Int := SM.mulLo (bL a b) (bH a b) (oL x) (oH x)
def tH (a b x : Int) : Int := SM.mulHi (bL a b) (bH a b) (oL x) (oH x)
/-- From the place up 'a' and around 'l' to that up 'b' and around 'm'. -/
def sqL (a l b m : Int) : Int := clp (oL (b - a) + tL a b (m - l))
def sqH (a l b m : Int) : Int := clp (oH (b - a) + tH a b (m - l))
def dsL (a l b m : Int) : Int := max (2 * sbL (min (SM.rtLo (sqL a l b m)) 1000000000)) 0
def dsH (a l b m : Int) : Int := 2 * sbH (min (SM.rtHi (sqH a l b m)) 1000000000)
theorem si_le (x : Int) : siL x ≤ siH x := (si_enc x).2.b
theorem k_le (a : Int) : kL a ≤ kH a := clp_mono (si_le _)
/-! ### products of what is not below 0 -/
theorem mul_nnI {a b c d : Int} (h0 : 0 ≤ a) (h : a ≤ b) (g0 : 0 ≤ c) (g : c ≤ d) : SM.mulLo a b c d = NM.down (a * c) 1000000000 ∧ SM.mulHi a b c d = NM.up (b * d) 1000000000 := by
  have e1 : a * c ≤ a * d := Int.mul_le_mul_of_nonneg_left g h0
  have e2 : a * c ≤ b * c := Int.mul_le_mul_of_nonneg_right h g0
  have e3 : a * d ≤ b * d := Int.mul_le_mul_of_nonneg_right h (by omega)
  have e4 : b * c ≤ b * d := Int.mul_le_mul_of_nonneg_left g (by omega)
  unfold SM.mulLo SM.mulHi NM.down NM.up
  generalize a * c = p at *
  generalize a * d = q at *
  generalize b * c = r at *
  generalize b * d = t at *
  omega
theorem mul_bdI {a b c d : Int} (h0 : 0 ≤ a) (h : a ≤ b) (h1 : b ≤ 1000000000) (g0 : 0 ≤ c) (g : c ≤ d) (g1 : d ≤ 1000000000) : 0 ≤ SM.mulLo a b c d ∧ SM.mulLo a b c d ≤ SM.mulHi a b c d ∧ SM.mulHi a b c d ≤ 1000000000 := by
  obtain ⟨e1, e2⟩ := mul_nnI h0 h g0 g
  have p0 : 0 ≤ a * c := Int.mul_nonneg h0 g0
  have p1 : a * c ≤ b * d := Int.mul_le_mul h g g0 (by omega)
  have p2 : b * d ≤ 1000000000 * 1000000000 := Int.mul_le_mul h1 g1 (by omega) (by decide)
  rw [e1, e2]
  unfold NM.down NM.up
  generalize a * c = p at *
  generalize b * d = t at *
  omega
theorem o_le (x : Int) : oL x ≤ oH x := clp_mono (mul_fit (si_enc x).2 (si_enc x).2).2.1
theorem b_le (a b : Int) : bL a b ≤ bH a b := clp_mono (mul_bdI (clp_bd _).1 (k_le a) (clp_bd _).2 (clp_bd _).1 (k_le b) (clp_bd _).2).2.1
theorem t_bd (a b x : Int) : 0 ≤ tL a b x ∧ tL a b x ≤ tH a b x ∧ tH a b x ≤ 1000000000 := mul_bdI (clp_bd _).1 (b_le a b) (clp_bd _).2 (clp_bd _).1 (o_le x) (clp_bd _).2
theorem sq_le (a l b m : Int) : sqL a l b m ≤ sqH a l b m := clp_mono (by have := o_le (b - a); have := t_bd a b (m - l); omega)
theorem sq_bd (a l b m : Int) : 0 ≤ sqL a l b m ∧ sqH a l b m ≤ 1000000000 := ⟨(clp_bd _).1, (clp_bd _).2⟩
/-! ### what is exact -/
theorem o_neg (x : Int) : oL (-x) = oL x ∧ oH (-x) = oH x := by
  obtain ⟨e1, e2⟩ := si_neg x
  unfold oL oH
  rw [e1, e2]
  have p1 : -siH x * -siH x = siH x * siH x := Int.neg_mul_neg _ _
  have p2 : -siH x * -siL x = siH x * siL x := Int.neg_mul_neg _ _
  have p3 : -siL x * -siH x = siL x * siH x := Int.neg_mul_neg _ _
  have p4 : -siL x * -siL x = siL x * siL x := Int.neg_mul_neg _ _
  unfold SM.mulLo SM.mulHi
  rw [p1, p2, p3, p4]
  generalize NM.down (siH x * siH x) 1000000000 = a
  generalize NM.down (siH x * siL x) 1000000000 = b
  generalize NM.down (siL x * siH x) 1000000000 = c
  generalize NM.down (siL x * siL x) 1000000000 = d
  generalize NM.up (siH x * siH x) 1000000000 = e
  generalize NM.up (siH x * siL x) 1000000000 = f
  generalize NM.up (siL x * siH x) 1000000000 = g
  generalize NM.up (siL x * siL x) 1000000000 = h
  unfold clp
  omega
theorem o_half (x : Int) : oL (x + 129600000) = oL x ∧ oH (x + 129600000) = oH x := by
  have n := o_neg x
  have e1 : siL (x + 129600000) = siL (-x) := by rw [(si_half x).1, (si_neg x).1]
  have e2 : siH (x + 129600000) = siH (-x) := by rw [(si_half x).2, (si_neg x).2]
  have a1 : oL (x + 129600000) = oL (-x) := by unfold oL; rw [e1, e2]
  have a2 : oH (x + 129600000) = oH (-x) := by unfold oH; rw [e1, e2]
  rw [a1, a2]
  exact n
theorem o_turn (x : Int) (n : Nat) : oL (x + 129600000 * (n : Int)) = oL x ∧ oH (x + 129600000 * (n : Int)) = oH x := by
  induction n with
  | zero => simp
  | succ n ih =>
    have e : x + 129600000 * ((n + 1 : Nat) : Int) = x + 129600000 * (n : Int) + 129600000 := by push_cast; omega
    rw [e, (o_half _).1, (o_half _).2]
    exact ih
theorem o_turns (x k : Int) : oL (x + 129600000 * k) = oL x ∧ oH (x + 129600000 * k) = oH x := by
  rcases Int.le_total 0 k with h | h
  · have := o_turn x k.toNat
    rw [Int.toNat_of_nonneg h] at this
    exact this
  · have := o_turn (x + 129600000 * k) (-k).toNat
    rw [Int.toNat_of_nonneg (by omega), show x + 129600000 * k + 129600000 * -k = x by omega] at this
    exact ⟨this.1.symm, this.2.symm⟩
theorem o_zero : oL 0 = 0 ∧ oH 0 = 0 := by
  obtain ⟨e1, e2⟩ := ex0
  unfold oL oH
  rw [e1, e2]
  decide
theorem k_neg (a : Int) : kL (-a) = kL a ∧ kH (-a) = kH a := by
  obtain ⟨e1, e2⟩ := si_cos (2 * a)
  unfold kL kH
  rw [show 2 * -a + 64800000 = -(2 * a) + 64800000 by omega, e1, e2]
  exact ⟨rfl, rfl⟩
theorem mul_swap (a b c d : Int) : SM.mulLo a b c d = SM.mulLo c d a b ∧ SM.mulHi a b c d = SM.mulHi c d a b := by
  unfold SM.mulLo SM.mulHi
  rw [Int.mul_comm a c, Int.mul_comm a d, Int.mul_comm b c, Int.mul_comm b d]
  omega
theorem b_swap (a b : Int) : bL b a = bL a b ∧ bH b a = bH a b := by
  unfold bL bH
  rw [(mul_swap (kL b) (kH b) (kL a) (kH a)).1, (mul_swap (kL b) (kH b) (kL a) (kH a)).2]
  exact ⟨rfl, rfl⟩
theorem sq_swap (a l b m : Int) : sqL b m a l = sqL a l b m ∧ sqH b m a l = sqH a l b m := by
  have o1 := o_neg (b - a)
  have o2 := o_neg (m - l)
  rw [show -(b - a) = a - b by omega] at o1
  rw [show -(m - l) = l - m by omega] at o2
  unfold sqL sqH tL tH
  rw [(b_swap a b).1, (b_swap a b).2, o1.1, o1.2, o2.1, o2.2]
  exact ⟨rfl, rfl⟩
theorem ds_swap (a l b m : Int) : dsL b m a l = dsL a l b m ∧ dsH b m a l = dsH a l b m := by
  unfold dsL dsH
  rw [(sq_swap a l b m).1, (sq_swap a l b m).2]
  exact ⟨rfl, rfl⟩
theorem mul_zero_r (a b : Int) : SM.mulLo a b 0 0 = 0 ∧ SM.mulHi a b 0 0 = 0 := by
  unfold SM.mulLo SM.mulHi
  simp only [Int.mul_zero]
  decide
theorem mul_zero_l (a b : Int) : SM.mulLo 0 0 a b = 0 ∧ SM.mulHi 0 0 a b = 0 := by
  unfold SM.mulLo SM.mulHi
  simp only [Int.zero_mul]
  decide
theorem clp0 : clp 0 = 0 := by decide
theorem pole_k : (kL 32400000 = 0 ∧ kH 32400000 = 0) ∧ kL (-32400000) = 0 ∧ kH (-32400000) = 0 := by
  have e : kL 32400000 = 0 ∧ kH 32400000 = 0 := by
    obtain ⟨e1, e2⟩ := ex6
    unfold kL kH
    rw [show (2 : Int) * 32400000 + 64800000 = 129600000 by decide, e1, e2]
    decide
  refine ⟨e, ?_⟩
  rw [(k_neg 32400000).1, (k_neg 32400000).2]
  exact e
/-- From a place straight up, or down, nothing is around. -/
theorem t_zero (a b : Int) : tL a b 0 = 0 ∧ tH a b 0 = 0 := by
  unfold tL tH
  rw [o_zero.1, o_zero.2]
  exact mul_zero_r _ _
theorem t_pole {a b x : Int} (h : b = 32400000 ∨ b = -32400000) : tL a b x = 0 ∧ tH a b x = 0 := by
  have e : kL b = 0 ∧ kH b = 0 := by
    rcases h with rfl | rfl
    · exact pole_k.1
    · exact pole_k.2
  have e2 : bL a b = 0 ∧ bH a b = 0 := by
    unfold bL bH
    rw [e.1, e.2, (mul_zero_r _ _).1, (mul_zero_r _ _).2]
    exact ⟨clp0, clp0⟩
  unfold tL tH
  rw [e2.1, e2.2]
  exact mul_zero_l _ _
theorem o_bd (x : Int) : 0 ≤ oL x ∧ oL x ≤ oH x ∧ oH x ≤ 1000000000 := ⟨(clp_bd _).1, o_le x, (clp_bd _).2⟩
theorem sq_up (a l b : Int) : sqL a l b l = oL (b - a) ∧ sqH a l b l = oH (b - a) := by
  have z := t_zero a b
  have e : l - l = 0 := by omega
  have d := o_bd (b - a)
  unfold sqL sqH
  rw [e, z.1, z.2, Int.add_zero, Int.add_zero]
  exact ⟨clp_id d.1 (by omega), clp_id (by omega) d.2.2⟩
theorem sq_pole {a l b m : Int} (h : b = 32400000 ∨ b = -32400000) : sqL a l b m = oL (b - a) ∧ sqH a l b m = oH (b - a) := by
  have z := t_pole (a := a) (x := m - l) h
  have d := o_bd (b - a)
  unfold sqL sqH
  rw [z.1, z.2, Int.add_zero, Int.add_zero]
  exact ⟨clp_id d.1 (by omega), clp_id (by omega) d.2.2⟩
theorem k0 : kL 0 = 1000000000 ∧ kH 0 = 1000000000 := by
  obtain ⟨e1, e2⟩ := ex3
  unfold kL kH
  rw [show (2 : Int) * 0 + 64800000 = 64800000 by decide, e1, e2]
  decide
theorem sq_mid (l m : Int) : sqL 0 l 0 m = oL (m - l) ∧ sqH 0 l 0 m = oH (m - l) := by
  have d := o_bd (m - l)
  have b : bL 0 0 = 1000000000 ∧ bH 0 0 = 1000000000 := by
    unfold bL bH
    rw [k0.1, k0.2]
    decide
  have z : (0 : Int) - 0 = 0 := by decide
  have t : tL 0 0 (m - l) = oL (m - l) ∧ tH 0 0 (m - l) = oH (m - l) := by
    unfold tL tH
    rw [b.1, b.2]
    obtain ⟨e1, e2⟩ := mul_nnI (show (0 : Int) ≤ 1000000000 by decide) (Int.le_refl _) d.1 d.2.1
    rw [e1, e2]
    unfold NM.down NM.up
    omega
  unfold sqL sqH
  rw [z, o_zero.1, o_zero.2, t.1, t.2, Int.zero_add, Int.zero_add]
  exact ⟨clp_id d.1 (by omega), clp_id (by omega) d.2.2⟩
end SI
end Go.Proofs.YtiidbbnclhknpaaDoor
namespace Go.Proofs.YtiidbbnclhknpaaDoor
namespace SI
set_option linter.unusedVariables false
theorem siL_nn {k : Int} (h0 : 0 ≤ k) (h1 : k ≤ 129600000) : 0 ≤ siL k := by
  unfold siL
  rw [show k % 259200000 = k by omega]
  by_cases z : 129600000 ≤ k
  · rw [if_pos z, show k - 129600000 = 0 by omega, ha0.2]
    decide
  · rw [if_neg z]
    exact (ha_enc h0 (by omega)).2.2
theorem siH_pos {k : Int} (h0 : 0 < k) (h1 : k ≤ 64800000) : 0 < siH k := by
  have := si_strictH (h := 0) (by decide) h0 h1
  rw [ex0.1] at this
  exact this
theorem sbH_nn {x : Int} (h0 : 0 ≤ x) (h1 : x ≤ 1000000000) : 0 ≤ sbH x := by
  have b := sb_of (x := x) (by omega) h1
  by_cases c : 0 ≤ sbH x
  · exact c
  · have p := siH_pos (k := -(2 * sbH x)) (by omega) (by have := b.h0; omega)
    have n := (si_neg (-(2 * sbH x))).1
    rw [Int.neg_neg] at n
    have := b.hi
    omega
/-- What the root of a span's end is clipped to. -/
theorem rt_bd {x : Int} (h0 : 0 ≤ x) : 0 ≤ min (SM.rtLo x) 1000000000 ∧ min (SM.rtLo x) 1000000000 ≤ min (SM.rtHi x) 1000000000 := by
  have a := SM.rtLo_nn x
  have b := SM.rtHi_or x
  omega
theorem rtm_mono {x y : Int} (h0 : 0 ≤ x) (h : x ≤ y) : min (SM.rtLo x) 1000000000 ≤ min (SM.rtHi y) 1000000000 := by
  have a := SM.rtHi_mono h0 h
  have b := rt_bd h0
  omega
theorem ds_bd (a l b m : Int) : 0 ≤ dsL a l b m ∧ dsL a l b m ≤ dsH a l b m ∧ dsH a l b m ≤ 64800000 := by
  have s := sq_bd a l b m
  have le := sq_le a l b m
  have mo := rtm_mono s.1 le
  have r := rt_bd s.1
  have n := sbH_nn (x := min (SM.rtHi (sqH a l b m)) 1000000000) (by omega) (by omega)
  have e := sb_meet (x := min (SM.rtLo (sqL a l b m)) 1000000000) (by omega) mo (by omega)
  have t := (sb_of (x := min (SM.rtHi (sqH a l b m)) 1000000000) (by omega) (by omega)).h1
  unfold dsL dsH
  omega
/-- The fan of the angle whose sine's square is reckoned has the angle. -/
theorem fan_at {k : Int} (h0 : 0 ≤ k) (h1 : k ≤ 64800000) : 2 * sbL (min (SM.rtLo (oL k)) 1000000000) ≤ k ∧ k ≤ 2 * sbH (min (SM.rtHi (oH k)) 1000000000) := by
  have n := siL_nn h0 (by omega)
  obtain ⟨_, f⟩ := si_enc k
  have f1 := f.b
  have f2 := f.c
  obtain ⟨e1, e2⟩ := mul_nnI n f1 n f1
  have p0 : 0 ≤ siL k * siL k := Int.mul_nonneg n n
  have p1 : siH k * siH k ≤ 1000000000 * 1000000000 := Int.mul_le_mul f2 f2 (by omega) (by decide)
  have p2 : siL k * siL k ≤ siH k * siH k := Int.mul_le_mul f1 f1 n (by omega)
  have oe : 0 ≤ oL k ∧ 1000000000 * oL k ≤ siL k * siL k ∧ siH k * siH k ≤ 1000000000 * oH k ∧ 0 ≤ oH k := by
    unfold oL oH
    rw [e1, e2]
    generalize siL k * siL k = p at *
    generalize siH k * siH k = t at *
    unfold clp NM.down NM.up
    omega
  have lo : SM.rtLo (oL k) ≤ siL k := by
    by_cases c : SM.rtLo (oL k) ≤ siL k
    · exact c
    · have q1 := (SM.rtLo_sq oe.1).1
      have q2 := Int.mul_le_mul (show siL k + 1 ≤ SM.rtLo (oL k) by omega) (show siL k + 1 ≤ SM.rtLo (oL k) by omega) (by omega) (SM.rtLo_nn _)
      have q3 : (siL k + 1) * (siL k + 1) = siL k * siL k + 2 * siL k + 1 := by rw [Int.add_mul, Int.mul_add]; omega
      omega
  have hi : siH k ≤ SM.rtHi (oH k) := by
    by_cases c : siH k ≤ SM.rtHi (oH k)
    · exact c
    · have q1 := SM.rtHi_sq oe.2.2.2
      have q0 := SM.rtHi_or (oH k)
      have qn := SM.rtLo_nn (oH k)
      have q2 := Int.mul_le_mul (show SM.rtHi (oH k) + 1 ≤ siH k by omega) (show SM.rtHi (oH k) + 1 ≤ siH k by omega) (by omega) (by omega)
      have q3 : (SM.rtHi (oH k) + 1) * (SM.rtHi (oH k) + 1) = SM.rtHi (oH k) * SM.rtHi (oH k) + 2 * SM.rtHi (oH k) + 1 := by rw [Int.add_mul, Int.mul_add]; omega
      omega
  have r1 := rt_bd oe.1
  have r2 := SM.rtLo_nn (oH k)
  have r3 := SM.rtHi_or (oH k)
  have b1 := sb_of (x := min (SM.rtLo (oL k)) 1000000000) (by omega) (by omega)
  have b2 := sb_of (x := min (SM.rtHi (oH k)) 1000000000) (by omega) (by omega)
  have bn := sbH_nn (x := min (SM.rtHi (oH k)) 1000000000) (by omega) (by omega)
  constructor
  · by_cases c : 2 * sbL (min (SM.rtLo (oL k)) 1000000000) ≤ k
    · exact c
    · have s := si_strictH h0 (show k < 2 * sbL (min (SM.rtLo (oL k)) 1000000000) by omega) (by have := b1.l1; omega)
      have := b1.lo
      omega
  · by_cases c : k ≤ 2 * sbH (min (SM.rtHi (oH k)) 1000000000)
    · exact c
    · have s := si_strictH (h := 2 * sbH (min (SM.rtHi (oH k)) 1000000000)) (by omega) (show _ < k by omega) h1
      have := b2.hi
      omega
theorem o_abs (x : Int) : oL x = oL (max x (-x)) ∧ oH x = oH (max x (-x)) := by
  rcases Int.le_total 0 x with h | h
  · rw [show max x (-x) = x by omega]; exact ⟨rfl, rfl⟩
  · rw [show max x (-x) = -x by omega, (o_neg x).1, (o_neg x).2]; exact ⟨rfl, rfl⟩
/-- Straight up. -/
theorem ds_up {a l b : Int} (a0 : -32400000 ≤ a) (a1 : a ≤ 32400000) (b0 : -32400000 ≤ b) (b1 : b ≤ 32400000) : dsL a l b l ≤ max (b - a) (-(b - a)) ∧ max (b - a) (-(b - a)) ≤ dsH a l b l := by
  have f := fan_at (k := max (b - a) (-(b - a))) (by omega) (by omega)
  have o := o_abs (b - a)
  have s := sq_up a l b
  unfold dsL dsH
  rw [s.1, s.2, o.1, o.2]
  omega
/-- To the end. -/
theorem ds_pole {a l m : Int} (a0 : -32400000 ≤ a) (a1 : a ≤ 32400000) : dsL a l 32400000 m ≤ 32400000 - a ∧ 32400000 - a ≤ dsH a l 32400000 m := by
  have f := fan_at (k := 32400000 - a) (by omega) (by omega)
  have s := sq_pole (a := a) (l := l) (b := 32400000) (m := m) (Or.inl rfl)
  unfold dsL dsH
  rw [s.1, s.2]
  omega
theorem o_lack (x : Int) : oL (129600000 - x) = oL x ∧ oH (129600000 - x) = oH x := by
  obtain ⟨e1, e2⟩ := si_lack x
  unfold oL oH
  rw [e1, e2]
  exact ⟨rfl, rfl⟩
/-- Around the middle: the shorter way. -/
theorem ds_mid {l m k : Int} (k0 : 0 ≤ k) (k1 : k ≤ 64800000) (h : ∃ n : Int, m - l = k + 129600000 * n ∨ m - l = -k + 129600000 * n) : dsL 0 l 0 m ≤ k ∧ k ≤ dsH 0 l 0 m := by
  have f := fan_at k0 k1
  have o : oL (m - l) = oL k ∧ oH (m - l) = oH k := by
    obtain ⟨n, e | e⟩ := h
    · rw [e]; exact o_turns k n
    · rw [e, (o_turns (-k) n).1, (o_turns (-k) n).2]; exact o_neg k
  have s := sq_mid l m
  unfold dsL dsH
  rw [s.1, s.2, o.1, o.2]
  omega
end SI
end Go.Proofs.YtiidbbnclhknpaaDoor
namespace Go.Proofs.YtiidbbnclhknpaaDoor
namespace SI
set_option linter.unusedVariables false
open TS (mul_le sq_nonneg ev neg ab ab_bd q c s xx)
theorem c_dbl (n : Nat) : c (n + n) = 1 - 2 * (s n * s n) := by
  obtain ⟨_, e⟩ := TS.add n n
  have l := TS.len n
  rw [e]
  grind
/-- The cosine of a difference. -/
theorem c_diff {m n : Nat} (h : m ≤ n) : c m * c n + s m * s n = c (n - m) := by
  have e := (@lack (n - m) m).2
  rw [show n - m + m = n by omega] at e
  rw [e]
  grind
/-- The squares of two sines. -/
theorem sq_diff {m n : Nat} (h : m ≤ n) : s n * s n - s m * s m = s (n + m) * s (n - m) := by
  obtain ⟨e1, _⟩ := TS.add n m
  have e2 : s (n - m) = s n * c m - c n * s m := by
    have := (@lack (n - m) m).1
    rw [show n - m + m = n by omega] at this
    exact this
  have l1 := TS.len n
  have l2 := TS.len m
  rw [e1, e2]
  have k : (s n * c m + c n * s m) * (s n * c m - c n * s m) = s n * s n * (c m * c m) - c n * c n * (s m * s m) := by grind
  rw [k, show c m * c m = 1 - s m * s m by grind, show c n * c n = 1 - s n * s n by grind]
  grind
/-! ### the triangle -/
structure Vec where
  x : Rat
  y : Rat
  z : Rat
def dot (p q : Vec) : Rat := p.x * q.x + p.y * q.y + p.z * q.z
/-- By a third place it is not nearer. -/
theorem tri {p q r : Vec} (pp : dot p p = 1) (qq : dot q q = 1) (rr : dot r r = 1) {sU cU sV cV : Rat} (u1 : sU * sU + cU * cU = 1) (v1 : sV * sV + cV * cV = 1) (u0 : 0 < sU) (v0 : 0 < sV) (g0 : 0 ≤ sV * cU + sU * cV)
    (hu : cU ≤ dot p r) (hv : cV ≤ dot r q) : cU * cV - sU * sV ≤ dot p q := by
  obtain ⟨px, py, pz⟩ := p
  obtain ⟨qx, qy, qz⟩ := q
  obtain ⟨rx, ry, rz⟩ := r
  simp only [dot] at *
  obtain ⟨u, eu⟩ : ∃ u, u = px * rx + py * ry + pz * rz := ⟨_, rfl⟩
  obtain ⟨v, ev⟩ : ∃ v, v = rx * qx + ry * qy + rz * qz := ⟨_, rfl⟩
  obtain ⟨w, ew⟩ : ∃ w, w = px * qx + py * qy + pz * qz := ⟨_, rfl⟩
  rw [← eu] at hu
  rw [← ev] at hv
  rw [← ew]
  obtain ⟨g, eg⟩ : ∃ g, g = sV * u + sU * v := ⟨_, rfl⟩
  have n1 := sq_nonneg (sV * px + sU * qx - g * rx)
  have n2 := sq_nonneg (sV * py + sU * qy - g * ry)
  have n3 := sq_nonneg (sV * pz + sU * qz - g * rz)
  have key : (sV * px + sU * qx - g * rx) * (sV * px + sU * qx - g * rx) + (sV * py + sU * qy - g * ry) * (sV * py + sU * qy - g * ry) + (sV * pz + sU * qz - g * rz) * (sV * pz + sU * qz - g * rz)
      = sV * sV * (px * px + py * py + pz * pz) + sU * sU * (qx * qx + qy * qy + qz * qz) + g * g * (rx * rx + ry * ry + rz * rz) + 2 * (sU * sV) * (px * qx + py * qy + pz * qz) - 2 * g * sV * (px * rx + py * ry + pz * rz) - 2 * g * sU * (rx * qx + ry * qy + rz * qz) := by grind
  rw [pp, qq, rr, ← eu, ← ev, ← ew] at key
  have pos : 0 ≤ sV * sV * 1 + sU * sU * 1 + g * g * 1 + 2 * (sU * sV) * w - 2 * g * sV * u - 2 * g * sU * v := by
    rw [← key]
    grind
  clear key n1 n2 n3 pp qq rr eu ev ew
  have e2 : 2 * g * sV * u + 2 * g * sU * v = 2 * (g * g) := by rw [eg]; grind
  have m1 := mul_le hu (x := sV) (by grind)
  have m2 := mul_le hv (x := sU) (by grind)
  have gg := sq_mono g0 (show sV * cU + sU * cV ≤ g by grind)
  have id : (sV * cU + sU * cV) * (sV * cU + sU * cV) - sU * sU - sV * sV = 2 * (sU * sV) * (cU * cV - sU * sV) := by
    have a : cU * cU = 1 - sU * sU := by grind
    have b : cV * cV = 1 - sV * sV := by grind
    have : (sV * cU + sU * cV) * (sV * cU + sU * cV) = sV * sV * (cU * cU) + sU * sU * (cV * cV) + 2 * (sU * sV) * (cU * cV) := by grind
    rw [this, a, b]
    grind
  have uv : 0 < 2 * (sU * sV) := by
    have := Rat.mul_pos u0 v0
    grind
  refine le_of_mul (m := 2 * (sU * sV)) uv ?_
  generalize cU * cV - sU * sV = K at *
  generalize (sV * cU + sU * cV) * (sV * cU + sU * cV) = T at *
  generalize g * g = G at *
  clear u1 v1 m1 m2 hu hv g0 eg u0 v0
  grind
/-! ### places -/
/-- The cosine, and the sine, of so many parts up. -/
def Kc (a : Int) : Rat := c (4 * a.natAbs)
def Ks (a : Int) : Rat := if 0 ≤ a then s (4 * a.natAbs) else -s (4 * a.natAbs)
theorem K_len (a : Int) : Kc a * Kc a + Ks a * Ks a = 1 := by
  have l := TS.len (4 * a.natAbs)
  unfold Kc Ks
  split
  · exact l
  · grind
def So (x : Int) : Rat := s (2 * x.natAbs)
theorem K_diff (a b : Int) : Kc a * Kc b + Ks a * Ks b = 1 - 2 * (So (b - a) * So (b - a)) := by
  unfold Kc Ks So
  have fin : ∀ n : Nat, n = 4 * (b - a).natAbs → c n = 1 - 2 * (s (2 * (b - a).natAbs) * s (2 * (b - a).natAbs)) := fun n e => by
    rw [show n = 2 * (b - a).natAbs + 2 * (b - a).natAbs by omega]
    exact c_dbl _
  by_cases ha : 0 ≤ a
  · by_cases hb : 0 ≤ b
    · rw [if_pos ha, if_pos hb]
      by_cases h : a ≤ b
      · rw [c_diff (by omega)]
        exact fin _ (by omega)
      · rw [Rat.mul_comm (c (4 * a.natAbs)), Rat.mul_comm (s (4 * a.natAbs)), c_diff (by omega)]
        exact fin _ (by omega)
    · rw [if_pos ha, if_neg hb]
      have e := (TS.add (4 * a.natAbs) (4 * b.natAbs)).2
      rw [← fin (4 * a.natAbs + 4 * b.natAbs) (by omega), e]
      grind
  · by_cases hb : 0 ≤ b
    · rw [if_neg ha, if_pos hb]
      have e := (TS.add (4 * a.natAbs) (4 * b.natAbs)).2
      rw [← fin (4 * a.natAbs + 4 * b.natAbs) (by omega), e]
      grind
    · rw [if_neg ha, if_neg hb]
      rw [show -s (4 * a.natAbs) * -s (4 * b.natAbs) = s (4 * a.natAbs) * s (4 * b.natAbs) by grind]
      by_cases h : b ≤ a
      · rw [c_diff (by omega)]
        exact fin _ (by omega)
      · rw [Rat.mul_comm (c (4 * a.natAbs)), Rat.mul_comm (s (4 * a.natAbs)), c_diff (by omega)]
        exact fin _ (by omega)
theorem A_diff {l m : Int} (l0 : 0 ≤ l) (m0 : 0 ≤ m) : c (4 * l.natAbs) * c (4 * m.natAbs) + s (4 * l.natAbs) * s (4 * m.natAbs) = 1 - 2 * (So (m - l) * So (m - l)) := by
  unfold So
  have fin : ∀ n : Nat, n = 4 * (m - l).natAbs → c n = 1 - 2 * (s (2 * (m - l).natAbs) * s (2 * (m - l).natAbs)) := fun n e => by
    rw [show n = 2 * (m - l).natAbs + 2 * (m - l).natAbs by omega]
    exact c_dbl _
  by_cases h : l ≤ m
  · rw [c_diff (by omega)]
    exact fin _ (by omega)
  · rw [Rat.mul_comm (c (4 * l.natAbs)), Rat.mul_comm (s (4 * l.natAbs)), c_diff (by omega)]
    exact fin _ (by omega)
/-- A place. -/
def vec (a l : Int) : Vec := ⟨Kc a * c (4 * l.natAbs), Kc a * s (4 * l.natAbs), Ks a⟩
theorem vec_len (a l : Int) : dot (vec a l) (vec a l) = 1 := by
  have k := K_len a
  have n := TS.len (4 * l.natAbs)
  simp only [dot, vec]
  generalize c (4 * l.natAbs) = x at *
  generalize s (4 * l.natAbs) = y at *
  generalize Kc a = u at *
  generalize Ks a = v at *
  have : u * x * (u * x) + u * y * (u * y) = u * u * (x * x + y * y) := by grind
  rw [this, n]
  grind
/-- The true square of half the way's chord. -/
def hsq (a l b m : Int) : Rat := So (b - a) * So (b - a) + Kc a * Kc b * (So (m - l) * So (m - l))
theorem vec_dot {a l b m : Int} (l0 : 0 ≤ l) (m0 : 0 ≤ m) : dot (vec a l) (vec b m) = 1 - 2 * hsq a l b m := by
  have k := K_diff a b
  have n := A_diff l0 m0
  simp only [dot, vec]
  unfold hsq
  generalize c (4 * l.natAbs) = x at *
  generalize s (4 * l.natAbs) = y at *
  generalize c (4 * m.natAbs) = x' at *
  generalize s (4 * m.natAbs) = y' at *
  generalize So (m - l) * So (m - l) = A at *
  generalize So (b - a) * So (b - a) = B at *
  have : Kc a * x * (Kc b * x') + Kc a * y * (Kc b * y') = Kc a * Kc b * (x * x' + y * y') := by grind
  rw [this, n]
  grind
theorem hsq_le {a l b m : Int} (l0 : 0 ≤ l) (m0 : 0 ≤ m) : hsq a l b m ≤ 1 := by
  have d := vec_dot (a := a) (b := b) l0 m0
  have p1 := vec_len a l
  have p2 := vec_len b m
  generalize vec a l = p at *
  generalize vec b m = q at *
  simp only [dot] at *
  have n1 := sq_nonneg (p.x + q.x)
  have n2 := sq_nonneg (p.y + q.y)
  have n3 := sq_nonneg (p.z + q.z)
  grind
end SI
end Go.Proofs.YtiidbbnclhknpaaDoor
namespace Go.Proofs.YtiidbbnclhknpaaDoor
namespace SI
set_option linter.unusedVariables false
open TS (mul_le sq_nonneg ev neg ab ab_bd q c s xx)
theorem In.clip {L H : Int} {v d : Rat} (h : In L H v d) (v0 : 0 ≤ 1000000000 * v + d) (v1 : 1000000000 * v ≤ 1000000000 + d) : In (clp L) (clp H) v d := by
  have l := h.lo
  have u := h.hi
  have c0 : ((0 : Int) : Rat) = 0 := rfl
  have c9 : ((1000000000 : Int) : Rat) = 1000000000 := rfl
  constructor
  · rcases (show clp L = 0 ∨ clp L ≤ L by unfold clp; omega) with e | e
    · rw [e, c0]; exact v0
    · have := cast_ge e; grind
  · rcases (show clp H = 1000000000 ∨ H ≤ clp H by unfold clp; omega) with e | e
    · rw [e, c9]; exact v1
    · have := cast_ge e; grind
def dF : Rat := 1 / 10000000000
theorem dF0 : 0 ≤ dF := by decide +kernel
theorem So_bd (x : Int) : So x ≤ 1 ∧ -1 ≤ So x := s_bd _
theorem So_sq (x : Int) : 0 ≤ So x * So x ∧ So x * So x ≤ 1 := by
  have b := So_bd x
  have := rmul_bd (x := So x) (y := So x) (A := 1) (B := 1) b.2 b.1 b.2 b.1
  exact ⟨sq_nonneg _, by grind⟩
theorem S_So {x : Int} (h0 : 0 ≤ x) (h1 : x < 259200000) : S x = So x := by
  rw [S_nn h0 h1]
  unfold So
  congr 1
  omega
theorem o_enc {x : Int} (h0 : -259200000 < x) (h1 : x < 259200000) : In (oL x) (oH x) (So x * So x) (3 * dF) := by
  have a := o_abs x
  have e : So x = So (max x (-x)) := by unfold So; congr 2; omega
  rw [a.1, a.2, e]
  generalize hk : max x (-x) = k
  have k0 : 0 ≤ k := by omega
  have i : In (siL k) (siH k) (So k) dF := by rw [← S_So k0 (by omega)]; exact si_encF k
  obtain ⟨m1, m2⟩ := mul_enc i i (si_le k) (si_le k) (So_bd k) (So_bd k) dF0 (by decide +kernel)
  have q := So_sq k
  have z := dF0
  exact In.clip ⟨m1, m2⟩ (by grind) (by grind)
theorem Kc_bd {a : Int} (h0 : -32400000 ≤ a) (h1 : a ≤ 32400000) : Kc a ≤ 1 ∧ -epsF ≤ Kc a := by
  refine ⟨(c_bd _).1, ?_⟩
  unfold Kc
  by_cases z : 4 * a.natAbs + 1 ≤ 129600000
  · have := c_pos z
    have := epsF0
    grind
  · rw [show 4 * a.natAbs = 64800000 + 64800000 by omega]
    exact (quarterF rfl).2.1
theorem k_enc {a : Int} (h0 : -32400000 ≤ a) (h1 : a ≤ 32400000) : In (kL a) (kH a) (Kc a) (2 * dF) := by
  have red : ∃ b : Int, 0 ≤ b ∧ b ≤ 32400000 ∧ kL a = kL b ∧ kH a = kH b ∧ Kc a = Kc b := by
    rcases Int.le_total 0 a with h | h
    · exact ⟨a, h, h1, rfl, rfl, rfl⟩
    · refine ⟨-a, by omega, by omega, (k_neg a).1.symm, (k_neg a).2.symm, ?_⟩
      unfold Kc
      congr 2
      omega
  obtain ⟨b, b0, b1, e1, e2, e3⟩ := red
  rw [e1, e2, e3]
  have i := si_encF (2 * b + 64800000)
  rw [S_nn (by omega) (by omega)] at i
  obtain ⟨⟨t1, t2⟩, _⟩ := turn_qF rfl (4 * b.natAbs)
  rw [show 4 * b.natAbs + (64800000 + 64800000) = (2 * b + 64800000).toNat + (2 * b + 64800000).toNat by omega] at t1 t2
  have kb := Kc_bd (a := b) (by omega) b1
  have l := i.lo
  have u := i.hi
  unfold Kc at kb ⊢
  unfold epsF at t1 t2 kb
  unfold dF
  generalize s ((2 * b + 64800000).toNat + (2 * b + 64800000).toNat) = v at *
  generalize c (4 * b.natAbs) = w at *
  exact In.clip ⟨by grind, by grind⟩ (by grind) (by grind)
theorem b_enc {a b : Int} (a0 : -32400000 ≤ a) (a1 : a ≤ 32400000) (b0 : -32400000 ≤ b) (b1 : b ≤ 32400000) : In (bL a b) (bH a b) (Kc a * Kc b) (6 * dF) ∧ -epsF ≤ Kc a * Kc b ∧ Kc a * Kc b ≤ 1 := by
  have ka := Kc_bd a0 a1
  have kb := Kc_bd b0 b1
  have z := dF0
  have ez := epsF0
  have e1 : epsF ≤ 1 := by decide +kernel
  obtain ⟨m1, m2⟩ := mul_enc (k_enc a0 a1) (k_enc b0 b1) (k_le a) (k_le b) ⟨ka.1, by grind⟩ ⟨kb.1, by grind⟩ (by grind) (by decide +kernel)
  have p1 : Kc a * Kc b ≤ 1 := by
    have := rmul_bd (x := Kc a) (y := Kc b) (A := 1) (B := 1) (by grind) ka.1 (by grind) kb.1
    grind
  have p0 : -epsF ≤ Kc a * Kc b := by
    have n : 0 ≤ (Kc a + epsF) * (Kc b + epsF) := Rat.mul_nonneg (by grind) (by grind)
    rcases Rat.le_total (a := 0) (b := Kc a) with g | g
    · have : 0 ≤ Kc a * (Kc b + epsF) := Rat.mul_nonneg g (by grind)
      have m := mul_le ka.1 (x := epsF) ez
      grind
    · rcases Rat.le_total (a := 0) (b := Kc b) with g2 | g2
      · have : 0 ≤ (Kc a + epsF) * Kc b := Rat.mul_nonneg (by grind) g2
        have m := mul_le kb.1 (x := epsF) ez
        grind
      · have : 0 ≤ (-Kc a) * (-Kc b) := Rat.mul_nonneg (by grind) (by grind)
        grind
  have big : epsF * 1000000000 ≤ dF := by decide +kernel
  refine ⟨In.clip ⟨by grind, by grind⟩ (by grind) (by grind), p0, p1⟩
theorem sq_enc {a l b m : Int} (a0 : -32400000 ≤ a) (a1 : a ≤ 32400000) (b0 : -32400000 ≤ b) (b1 : b ≤ 32400000) (l0 : 0 ≤ l) (l1 : l < 129600000) (m0 : 0 ≤ m) (m1 : m < 129600000) : In (sqL a l b m) (sqH a l b m) (hsq a l b m) (21 * dF) := by
  obtain ⟨ib, p0, p1⟩ := b_enc a0 a1 b0 b1
  have io := o_enc (x := b - a) (by omega) (by omega)
  have ia := o_enc (x := m - l) (by omega) (by omega)
  have qo := So_sq (b - a)
  have qa := So_sq (m - l)
  have z := dF0
  have ez := epsF0
  have e1 : epsF ≤ 1 := by decide +kernel
  obtain ⟨t1, t2⟩ := mul_enc ib (ia.wide (d' := 6 * dF) (by grind)) (b_le a b) (o_le (m - l)) ⟨p1, by grind⟩ ⟨qa.2, by grind⟩ (by grind) (by decide +kernel)
  have h1 := hsq_le (a := a) (b := b) l0 m0
  have big : epsF * 1000000000 ≤ dF := by decide +kernel
  have pn : -epsF ≤ Kc a * Kc b * (So (m - l) * So (m - l)) := by
    have : 0 ≤ (Kc a * Kc b + epsF) * (So (m - l) * So (m - l)) := Rat.mul_nonneg (by grind) qa.1
    have k := mul_le qa.2 ez
    grind
  have o1 := io.lo
  have o2 := io.hi
  unfold hsq at *
  generalize Kc a * Kc b * (So (m - l) * So (m - l)) = T at *
  generalize So (b - a) * So (b - a) = O at *
  unfold sqL sqH
  refine In.clip ⟨?_, ?_⟩ (by grind) (by grind)
  · rw [cast_add]; unfold tL; grind
  · rw [cast_add]; unfold tH; grind
/-! ### what an end of the fan says of the true square -/
def eF : Rat := 3 / 1000000000000000000
theorem s4_nn {A : Int} (A0 : 0 ≤ A) (A1 : A ≤ 32400000) : 0 ≤ s (4 * A.toNat) := by
  by_cases z : A = 0
  · rw [z]
    show 0 ≤ s 0
    rw [TS.s0]
    grind
  · have := s_pos (n := 4 * A.toNat) (by omega) (by omega)
    grind
/-- The lower end's sine's square is not above the true one, nearly. -/
theorem low_end {L H A : Int} {h : Rat} (i : In L H h (21 * dF)) (L0 : 0 ≤ L) (L1 : L ≤ 1000000000) (A0 : 0 ≤ A) (A1 : A ≤ 32400000) (e : siH (2 * A) ≤ min (SM.rtLo L) 1000000000) : s (4 * A.toNat) * s (4 * A.toNat) ≤ h + eF := by
  have k := (si_encF (2 * A)).hi
  rw [S_nn (by omega) (by omega), show (2 * A).toNat + (2 * A).toNat = 4 * A.toNat by omega] at k
  have r1 := (SM.rtLo_sq L0).1
  have r0 := SM.rtLo_nn L
  have r9 : SM.rtLo L ≤ 1000000000 := by
    by_cases z : SM.rtLo L ≤ 1000000000
    · exact z
    · have := Int.mul_le_mul (show 1000000001 ≤ SM.rtLo L by omega) (show 1000000001 ≤ SM.rtLo L by omega) (by decide) r0
      omega
  have c1 := cast_ge (show siH (2 * A) ≤ SM.rtLo L by omega)
  have c2 := cast_ge r1
  have c3 := cast_ge r0
  have c4 := cast_ge r9
  rw [cast_mul, cast_mul] at c2
  have c9 : ((1000000000 : Int) : Rat) = 1000000000 := rfl
  have c0 : ((0 : Int) : Rat) = 0 := rfl
  rw [c9] at c2 c4
  rw [c0] at c3
  have lo := i.lo
  have sn := s4_nn A0 A1
  unfold dF at lo
  unfold eF
  generalize s (4 * A.toNat) = v at *
  generalize (SM.rtLo L : Rat) = r at *
  have q := sq_mono (show 0 ≤ 1000000000 * v by grind) (show 1000000000 * v ≤ r + 1 / 10000000000 by grind)
  have q2 : (r + 1 / 10000000000) * (r + 1 / 10000000000) = r * r + 2 * r * (1 / 10000000000) + 1 / 10000000000 * (1 / 10000000000) := by grind
  have q3 : 1000000000 * v * (1000000000 * v) = v * v * 1000000000000000000 := by grind
  rw [q2, q3] at q
  generalize v * v = vv at *
  generalize r * r = rr at *
  clear q2 q3 sn k c1 r1 r0 r9 e
  grind
/-- The upper end's is not below it, nearly, unless it is a quarter. -/
theorem high_end {L H B : Int} {h : Rat} (i : In L H h (21 * dF)) (H0 : 0 ≤ H) (B0 : 0 ≤ B) (B1 : B < 32400000) (e : min (SM.rtHi H) 1000000000 ≤ siL (2 * B)) : h ≤ s (4 * B.toNat) * s (4 * B.toNat) + eF := by
  have k := (si_encF (2 * B)).lo
  rw [S_nn (by omega) (by omega), show (2 * B).toNat + (2 * B).toNat = 4 * B.toNat by omega] at k
  have st := si_strictH (h := 2 * B) (k := 64800000) (by omega) (by omega) (by decide)
  rw [ex3.2] at st
  have r1 := SM.rtHi_sq H0
  have r0 := SM.rtLo_nn H
  have ro := SM.rtHi_or H
  have c1 := cast_ge (show SM.rtHi H ≤ siL (2 * B) by omega)
  have c2 := cast_ge r1
  have c3 := cast_ge (show 0 ≤ SM.rtHi H by omega)
  have c4 := cast_ge (show SM.rtHi H ≤ 1000000000 by omega)
  rw [cast_mul, cast_mul] at c2
  have c9 : ((1000000000 : Int) : Rat) = 1000000000 := rfl
  have c0 : ((0 : Int) : Rat) = 0 := rfl
  rw [c9] at c2 c4
  rw [c0] at c3
  have hi := i.hi
  have sn := s4_nn B0 (by omega)
  have sb := (s_bd (4 * B.toNat)).1
  unfold dF at hi
  unfold eF
  generalize s (4 * B.toNat) = v at *
  generalize (SM.rtHi H : Rat) = r at *
  have q := sq_mono c3 (show r ≤ 1000000000 * v + 1 / 10000000000 by grind)
  have q2 : (1000000000 * v + 1 / 10000000000) * (1000000000 * v + 1 / 10000000000) = v * v * 1000000000000000000 + 2 * (1000000000 * v) * (1 / 10000000000) + 1 / 10000000000 * (1 / 10000000000) := by grind
  rw [q2] at q
  generalize v * v = vv at *
  generalize r * r = rr at *
  clear q2 sn k c1 r1 r0 ro e st
  grind
/-- What the fan's ends are. -/
structure Fan2 (a l b m A B : Int) : Prop where
  lo : dsL a l b m = 2 * max A 0
  hi : dsH a l b m = 2 * B
  a0 : -32400000 ≤ A
  a1 : A ≤ 32400000
  b0 : 0 ≤ B
  b1 : B ≤ 32400000
  le : siH (2 * A) ≤ min (SM.rtLo (sqL a l b m)) 1000000000
  ge : min (SM.rtHi (sqH a l b m)) 1000000000 ≤ siL (2 * B)
theorem fan2 (a l b m : Int) : ∃ A B : Int, Fan2 a l b m A B := by
  have s := sq_bd a l b m
  have le := sq_le a l b m
  have mo := rtm_mono s.1 le
  have r := rt_bd s.1
  have b1 := sb_of (x := min (SM.rtLo (sqL a l b m)) 1000000000) (by omega) (by omega)
  have b2 := sb_of (x := min (SM.rtHi (sqH a l b m)) 1000000000) (by omega) (by omega)
  have n := sbH_nn (x := min (SM.rtHi (sqH a l b m)) 1000000000) (by omega) (by omega)
  refine ⟨sbL (min (SM.rtLo (sqL a l b m)) 1000000000), sbH (min (SM.rtHi (sqH a l b m)) 1000000000), ?_, rfl, b1.l0, b1.l1, n, b2.h1, b1.lo, b2.hi⟩
  unfold dsL
  omega
/-- A place that is ok. -/
structure Pl (a l : Int) : Prop where
  a0 : -32400000 ≤ a
  a1 : a ≤ 32400000
  l0 : 0 ≤ l
  l1 : l < 129600000
theorem sq_encP {a l b m : Int} (p : Pl a l) (q : Pl b m) : In (sqL a l b m) (sqH a l b m) (hsq a l b m) (21 * dF) := sq_enc p.a0 p.a1 q.a0 q.a1 p.l0 p.l1 q.l0 q.l1
/-- By a third place it is not nearer. -/
theorem three {a l b m e n : Int} (p : Pl a l) (q : Pl b m) (r : Pl e n) : dsL a l b m ≤ dsH a l e n + dsH e n b m := by
  obtain ⟨A, _, f⟩ := fan2 a l b m
  obtain ⟨_, B, g⟩ := fan2 a l e n
  obtain ⟨_, D, k⟩ := fan2 e n b m
  rw [f.lo, g.hi, k.hi]
  have fa := f.a1
  have g0 := g.b0
  have k0 := k.b0
  by_cases z : A ≤ B + D
  · omega
  · exfalso
    have l1 := low_end (sq_encP p q) (sq_bd _ _ _ _).1 (by have := sq_bd a l b m; have := sq_le a l b m; omega) (show 0 ≤ A by omega) fa f.le
    have h1 := high_end (sq_encP p r) (by have := sq_bd a l e n; have := sq_le a l e n; omega) g0 (show B < 32400000 by omega) g.ge
    have h2 := high_end (sq_encP r q) (by have := sq_bd e n b m; have := sq_le e n b m; omega) k0 (show D < 32400000 by omega) k.ge
    -- a step more at both
    have d1 := sq_diff (m := 4 * B.toNat) (n := 4 * B.toNat + 1) (by omega)
    have d2 := sq_diff (m := 4 * D.toNat) (n := 4 * D.toNat + 1) (by omega)
    have p1 := s_pos2 (n := 4 * B.toNat + 1 + 4 * B.toNat) (by omega) (by omega)
    have p2 := s_pos2 (n := 4 * D.toNat + 1 + 4 * D.toNat) (by omega) (by omega)
    rw [show 4 * B.toNat + 1 - 4 * B.toNat = 1 by omega] at d1
    rw [show 4 * D.toNat + 1 - 4 * D.toNat = 1 by omega] at d2
    have p3 := s_pos2 (n := 1) (by omega) (by omega)
    have m1 := Rat.mul_nonneg (show 0 ≤ s (4 * B.toNat + 1 + 4 * B.toNat) - 9 / 1000000000 by grind) (show 0 ≤ s 1 - 9 / 1000000000 by grind)
    have m2 := Rat.mul_nonneg (show 0 ≤ s (4 * D.toNat + 1 + 4 * D.toNat) - 9 / 1000000000 by grind) (show 0 ≤ s 1 - 9 / 1000000000 by grind)
    have u : hsq a l e n ≤ s (4 * B.toNat + 1) * s (4 * B.toNat + 1) := by unfold eF at h1; grind
    have v : hsq e n b m ≤ s (4 * D.toNat + 1) * s (4 * D.toNat + 1) := by unfold eF at h2; grind
    have x1 := c_dbl (4 * B.toNat + 1)
    have x2 := c_dbl (4 * D.toNat + 1)
    obtain ⟨y1, y2⟩ := TS.add (4 * B.toNat + 1 + (4 * B.toNat + 1)) (4 * D.toNat + 1 + (4 * D.toNat + 1))
    have T := tri (vec_len a l) (vec_len b m) (vec_len e n) (sU := s (4 * B.toNat + 1 + (4 * B.toNat + 1))) (cU := c (4 * B.toNat + 1 + (4 * B.toNat + 1))) (sV := s (4 * D.toNat + 1 + (4 * D.toNat + 1))) (cV := c (4 * D.toNat + 1 + (4 * D.toNat + 1)))
      (by have := TS.len (4 * B.toNat + 1 + (4 * B.toNat + 1)); grind) (by have := TS.len (4 * D.toNat + 1 + (4 * D.toNat + 1)); grind)
      (by have := s_pos2 (n := 4 * B.toNat + 1 + (4 * B.toNat + 1)) (by omega) (by omega); grind) (by have := s_pos2 (n := 4 * D.toNat + 1 + (4 * D.toNat + 1)) (by omega) (by omega); grind)
      (by have := s_pos2 (n := 4 * B.toNat + 1 + (4 * B.toNat + 1) + (4 * D.toNat + 1 + (4 * D.toNat + 1))) (by omega) (by omega); grind)
      (by rw [vec_dot p.l0 r.l0, x1]; grind) (by rw [vec_dot r.l0 q.l0, x2]; grind)
    rw [vec_dot p.l0 q.l0, ← y2] at T
    have x3 := c_dbl (4 * (B + D).toNat + 2)
    rw [show 4 * B.toNat + 1 + (4 * B.toNat + 1) + (4 * D.toNat + 1 + (4 * D.toNat + 1)) = 4 * (B + D).toNat + 2 + (4 * (B + D).toNat + 2) by omega, x3] at T
    have d3 := sq_diff (m := 4 * (B + D).toNat + 2) (n := 4 * A.toNat) (by omega)
    have p4 := s_pos2 (n := 4 * A.toNat + (4 * (B + D).toNat + 2)) (by omega) (by omega)
    have p5 := s_pos2 (n := 4 * A.toNat - (4 * (B + D).toNat + 2)) (by omega) (by omega)
    have m3 := Rat.mul_nonneg (show 0 ≤ s (4 * A.toNat + (4 * (B + D).toNat + 2)) - 9 / 1000000000 by grind) (show 0 ≤ s (4 * A.toNat - (4 * (B + D).toNat + 2)) - 9 / 1000000000 by grind)
    unfold eF at l1
    clear d1 d2 m1 m2 u v x1 x2 y1 y2 x3 h1 h2 p1 p2 p3
    generalize s (4 * A.toNat + (4 * (B + D).toNat + 2)) = w1 at *
    generalize s (4 * A.toNat - (4 * (B + D).toNat + 2)) = w2 at *
    grind
end SI
end Go.Proofs.YtiidbbnclhknpaaDoor
namespace Go.Proofs.YtiidbbnclhknpaaDoor
namespace SI
set_option linter.unusedVariables false
open TS (mul_le sq_nonneg ev neg ab ab_bd q c s xx)
theorem Kc_neg (b : Int) : Kc (-b) = Kc b := by
  unfold Kc
  rw [Int.natAbs_neg]
theorem Ks_neg (b : Int) : Ks (-b) = -Ks b := by
  unfold Ks
  rw [Int.natAbs_neg]
  by_cases z : b = 0
  · subst z
    show (if (0 : Int) ≤ -0 then s 0 else -s 0) = -(if (0 : Int) ≤ 0 then s 0 else -s 0)
    rw [TS.s0]
    simp
  · by_cases h : 0 ≤ b
    · rw [if_neg (by omega), if_pos h]
    · rw [if_pos (by omega), if_neg h]; grind
/-- Half a turn around. -/
theorem half_round {m m' : Int} (m0 : 0 ≤ m) (m0' : 0 ≤ m') (h : m' = m + 64800000 ∨ m = m' + 64800000) : near (c (4 * m'.natAbs)) (-c (4 * m.natAbs)) (4 * epsF) ∧ near (s (4 * m'.natAbs)) (-s (4 * m.natAbs)) (4 * epsF) := by
  rcases h with h | h
  · obtain ⟨a, b⟩ := turn_hF rfl (4 * m.natAbs)
    rw [show 4 * m.natAbs + (64800000 + 64800000) + (64800000 + 64800000) = 4 * m'.natAbs by omega] at a b
    exact ⟨b, a⟩
  · obtain ⟨a, b⟩ := turn_hF rfl (4 * m'.natAbs)
    rw [show 4 * m'.natAbs + (64800000 + 64800000) + (64800000 + 64800000) = 4 * m.natAbs by omega] at a b
    unfold near at *
    exact ⟨⟨by grind, by grind⟩, by grind, by grind⟩
theorem far_sum {a l b m m' : Int} (l0 : 0 ≤ l) (m0 : 0 ≤ m) (m0' : 0 ≤ m') (h : m' = m + 64800000 ∨ m = m' + 64800000) : near (hsq a l b m + hsq a l (-b) m') 1 (4 * epsF) := by
  have d1 := vec_dot (a := a) (b := b) l0 m0
  have d2 := vec_dot (a := a) (b := -b) l0 m0'
  obtain ⟨⟨c1, c2⟩, s1, s2⟩ := half_round m0 m0' h
  simp only [dot, vec] at d1 d2
  rw [Kc_neg, Ks_neg] at d2
  have ka := c_bd (4 * a.natAbs)
  have kb := c_bd (4 * b.natAbs)
  have cl := c_bd (4 * l.natAbs)
  have sl := s_bd (4 * l.natAbs)
  have kk := rmul_bd (x := Kc a) (y := Kc b) (A := 1) (B := 1) ka.2 ka.1 kb.2 kb.1
  have ez := epsF0
  have f1 := rmul_bd (x := c (4 * l.natAbs)) (y := c (4 * m'.natAbs) + c (4 * m.natAbs)) (A := 1) (B := 4 * epsF) cl.2 cl.1 (by grind) (by grind)
  have f2 := rmul_bd (x := s (4 * l.natAbs)) (y := s (4 * m'.natAbs) + s (4 * m.natAbs)) (A := 1) (B := 4 * epsF) sl.2 sl.1 (by grind) (by grind)
  have f3 := rmul_bd (x := Kc a * Kc b) (y := c (4 * l.natAbs) * (c (4 * m'.natAbs) + c (4 * m.natAbs)) + s (4 * l.natAbs) * (s (4 * m'.natAbs) + s (4 * m.natAbs))) (A := 1) (B := 8 * epsF) (by grind) (by grind) (by grind) (by grind)
  have e : Kc a * c (4 * l.natAbs) * (Kc b * c (4 * m'.natAbs)) + Kc a * s (4 * l.natAbs) * (Kc b * s (4 * m'.natAbs)) + Ks a * -Ks b + (Kc a * c (4 * l.natAbs) * (Kc b * c (4 * m.natAbs)) + Kc a * s (4 * l.natAbs) * (Kc b * s (4 * m.natAbs)) + Ks a * Ks b)
      = Kc a * Kc b * (c (4 * l.natAbs) * (c (4 * m'.natAbs) + c (4 * m.natAbs)) + s (4 * l.natAbs) * (s (4 * m'.natAbs) + s (4 * m.natAbs))) := by grind
  rw [d1, d2] at e
  generalize Kc a * Kc b * (c (4 * l.natAbs) * (c (4 * m'.natAbs) + c (4 * m.natAbs)) + s (4 * l.natAbs) * (s (4 * m'.natAbs) + s (4 * m.natAbs))) = T at *
  unfold near
  clear d1 d2 f1 f2 kk c1 c2 s1 s2 ka kb cl sl
  constructor <;> grind
structure Opp (a l b m m' : Int) : Prop where
  p : Pl a l
  q : Pl b m
  q0 : 0 ≤ m'
  q1 : m' < 129600000
  h : m' = m + 64800000 ∨ m = m' + 64800000
theorem Opp.f {a l b m m' : Int} (o : Opp a l b m m') : Pl (-b) m' := ⟨by have := o.q.a1; omega, by have := o.q.a0; omega, o.q0, o.q1⟩
theorem Opp.sum {a l b m m' : Int} (o : Opp a l b m m') : near (hsq a l b m + hsq a l (-b) m') 1 (4 * epsF) := far_sum o.p.l0 o.q.l0 o.q0 o.h
/-- One is in both squares together. -/
theorem far_sq {a l b m m' : Int} (o : Opp a l b m m') : sqL a l b m + sqL a l (-b) m' ≤ 1000000000 ∧ 1000000000 ≤ sqH a l b m + sqH a l (-b) m' := by
  obtain ⟨n1, n2⟩ := o.sum
  obtain ⟨i1, i2⟩ := sq_encP o.p o.q
  obtain ⟨j1, j2⟩ := sq_encP o.p o.f
  have c9 : ((1000000000 : Int) : Rat) = 1000000000 := rfl
  unfold epsF at n1 n2
  unfold dF at i1 i2 j1 j2
  constructor
  · refine le_of_near (e := 1 / 2) ?_ (by decide +kernel)
    rw [cast_add, c9]
    grind
  · refine le_of_near (e := 1 / 2) ?_ (by decide +kernel)
    rw [cast_add, c9]
    grind
theorem s_mono {m n : Nat} (h : m ≤ n) (h1 : n ≤ 129600000) : s m * s m ≤ s n * s n := by
  have d := sq_diff h
  by_cases z : m = n
  · rw [z]; grind
  · by_cases y : n + m + 1 ≤ 259200000
    · have p := s_pos2 (n := n + m) (by omega) y
      have q := s_pos2 (n := n - m) (by omega) (by omega)
      have := Rat.mul_nonneg (show 0 ≤ s (n + m) by grind) (show 0 ≤ s (n - m) by grind)
      grind
    · omega
/-- Half a turn is in both fans together. -/
theorem far_ds {a l b m m' : Int} (o : Opp a l b m m') : dsL a l b m + dsL a l (-b) m' ≤ 64800000 ∧ 64800000 ≤ dsH a l b m + dsH a l (-b) m' := by
  obtain ⟨A, B, f⟩ := fan2 a l b m
  obtain ⟨D, E, g⟩ := fan2 a l (-b) m'
  obtain ⟨n1, n2⟩ := o.sum
  have i := sq_encP o.p o.q
  have j := sq_encP o.p o.f
  have b1 := sq_bd a l b m
  have b2 := sq_bd a l (-b) m'
  have b3 := sq_le a l b m
  have b4 := sq_le a l (-b) m'
  have fa := f.a1
  have ga := g.a1
  have fb := f.b0
  have gb := g.b0
  unfold epsF at n1 n2
  constructor
  · rw [f.lo, g.lo]
    by_cases z : max A 0 + max D 0 ≤ 32400000
    · omega
    · exfalso
      have l1 := low_end i b1.1 (by omega) (show 0 ≤ A by omega) fa f.le
      have l2 := low_end j b2.1 (by omega) (show 0 ≤ D by omega) ga g.le
      -- what lacks to a quarter
      have mo := s_mono (m := 4 * (32400001 - A).toNat) (n := 4 * D.toNat) (by omega) (by omega)
      obtain ⟨⟨k1, k2⟩, _⟩ := lack_qF rfl (m := 4 * (32400001 - A).toNat) (k := 4 * (A - 1).toNat) (by omega)
      have d := sq_diff (m := 4 * (A - 1).toNat) (n := 4 * A.toNat) (by omega)
      rw [show 4 * A.toNat - 4 * (A - 1).toNat = 4 by omega] at d
      have p1 := s_pos2 (n := 4 * A.toNat + 4 * (A - 1).toNat) (by omega) (by omega)
      have p2 := s_pos2 (n := 4) (by omega) (by omega)
      have mm := Rat.mul_nonneg (show 0 ≤ s (4 * A.toNat + 4 * (A - 1).toNat) - 9 / 1000000000 by grind) (show 0 ≤ s 4 - 9 / 1000000000 by grind)
      have ln := TS.len (4 * (A - 1).toNat)
      have cb := c_bd (4 * (A - 1).toNat)
      have sb := s_bd (4 * (32400001 - A).toNat)
      unfold epsF at k1 k2
      unfold eF at l1 l2
      have pr := rmul_bd (x := s (4 * (32400001 - A).toNat) - c (4 * (A - 1).toNat)) (y := s (4 * (32400001 - A).toNat) + c (4 * (A - 1).toNat)) (A := 2 * (1 / 1000000000000000000000)) (B := 2) (by grind) (by grind) (by grind) (by grind)
      have pe : (s (4 * (32400001 - A).toNat) - c (4 * (A - 1).toNat)) * (s (4 * (32400001 - A).toNat) + c (4 * (A - 1).toNat)) = s (4 * (32400001 - A).toNat) * s (4 * (32400001 - A).toNat) - c (4 * (A - 1).toNat) * c (4 * (A - 1).toNat) := by grind
      rw [pe] at pr
      generalize s (4 * A.toNat) * s (4 * A.toNat) = t1 at *
      generalize s (4 * D.toNat) * s (4 * D.toNat) = t2 at *
      generalize s (4 * (32400001 - A).toNat) * s (4 * (32400001 - A).toNat) = t3 at *
      generalize c (4 * (A - 1).toNat) * c (4 * (A - 1).toNat) = t4 at *
      generalize s (4 * (A - 1).toNat) * s (4 * (A - 1).toNat) = t5 at *
      generalize s (4 * A.toNat + 4 * (A - 1).toNat) = t6 at *
      generalize s 4 = t7 at *
      clear k1 k2 cb sb pe
      grind
  · rw [f.hi, g.hi]
    by_cases z : 32400000 ≤ B + E
    · omega
    · exfalso
      have h1 := high_end i (by omega) fb (show B < 32400000 by omega) f.ge
      have h2 := high_end j (by omega) gb (show E < 32400000 by omega) g.ge
      have mo := s_mono (m := 4 * E.toNat) (n := 4 * (32399999 - B).toNat) (by omega) (by omega)
      obtain ⟨⟨k1, k2⟩, _⟩ := lack_qF rfl (m := 4 * (32399999 - B).toNat) (k := 4 * (B + 1).toNat) (by omega)
      have d := sq_diff (m := 4 * B.toNat) (n := 4 * (B + 1).toNat) (by omega)
      rw [show 4 * (B + 1).toNat - 4 * B.toNat = 4 by omega] at d
      have p1 := s_pos2 (n := 4 * (B + 1).toNat + 4 * B.toNat) (by omega) (by omega)
      have p2 := s_pos2 (n := 4) (by omega) (by omega)
      have mm := Rat.mul_nonneg (show 0 ≤ s (4 * (B + 1).toNat + 4 * B.toNat) - 9 / 1000000000 by grind) (show 0 ≤ s 4 - 9 / 1000000000 by grind)
      have ln := TS.len (4 * (B + 1).toNat)
      have cb := c_bd (4 * (B + 1).toNat)
      have sb := s_bd (4 * (32399999 - B).toNat)
      unfold epsF at k1 k2
      unfold eF at h1 h2
      have pr := rmul_bd (x := s (4 * (32399999 - B).toNat) - c (4 * (B + 1).toNat)) (y := s (4 * (32399999 - B).toNat) + c (4 * (B + 1).toNat)) (A := 2 * (1 / 1000000000000000000000)) (B := 2) (by grind) (by grind) (by grind) (by grind)
      have pe : (s (4 * (32399999 - B).toNat) - c (4 * (B + 1).toNat)) * (s (4 * (32399999 - B).toNat) + c (4 * (B + 1).toNat)) = s (4 * (32399999 - B).toNat) * s (4 * (32399999 - B).toNat) - c (4 * (B + 1).toNat) * c (4 * (B + 1).toNat) := by grind
      rw [pe] at pr
      generalize s (4 * B.toNat) * s (4 * B.toNat) = t1 at *
      generalize s (4 * E.toNat) * s (4 * E.toNat) = t2 at *
      generalize s (4 * (32399999 - B).toNat) * s (4 * (32399999 - B).toNat) = t3 at *
      generalize c (4 * (B + 1).toNat) * c (4 * (B + 1).toNat) = t4 at *
      generalize s (4 * (B + 1).toNat) * s (4 * (B + 1).toNat) = t5 at *
      generalize s (4 * (B + 1).toNat + 4 * B.toNat) = t6 at *
      generalize s 4 = t7 at *
      clear k1 k2 cb sb pe
      grind
end SI
end Go.Proofs.YtiidbbnclhknpaaDoor
namespace Go.Proofs.YtiidbbnclhknpaaDoor
namespace SI
set_option linter.unusedVariables false
theorem sbH0 : sbH 0 = 0 := by decide +kernel
theorem rt0 : SM.rtLo 0 = 0 ∧ SM.rtHi 0 = 0 := by decide +kernel
/-- The same place: up alike, and around, too, or at an end. -/
def sameP (a l b m : Int) : Prop := a = b ∧ (l = m ∨ a = 32400000 ∨ a = -32400000)
theorem sq_same {a l b m : Int} (h : sameP a l b m) : sqL a l b m = 0 ∧ sqH a l b m = 0 := by
  obtain ⟨rfl, h⟩ := h
  have z : a - a = 0 := by omega
  rcases h with rfl | h
  · obtain ⟨e1, e2⟩ := sq_up a l a
    rw [e1, e2, z]
    exact o_zero
  · obtain ⟨e1, e2⟩ := sq_pole (a := a) (l := l) (b := a) (m := m) h
    rw [e1, e2, z]
    exact o_zero
theorem ds_same {a l b m : Int} (h : sameP a l b m) : dsL a l b m = 0 ∧ dsH a l b m = 0 := by
  obtain ⟨e1, e2⟩ := sq_same h
  have bd := ds_bd a l b m
  have e3 : dsH a l b m = 0 := by
    unfold dsH
    rw [e2, rt0.2]
    show 2 * sbH 0 = 0
    rw [sbH0]
    decide
  omega
/-- From a place two that are the same are as far. -/
theorem sq_from {e n a l b m : Int} (h : sameP a l b m) : sqL e n a l = sqL e n b m ∧ sqH e n a l = sqH e n b m := by
  obtain ⟨rfl, h⟩ := h
  rcases h with rfl | h
  · exact ⟨rfl, rfl⟩
  · obtain ⟨e1, e2⟩ := sq_pole (a := e) (l := n) (b := a) (m := l) h
    obtain ⟨e3, e4⟩ := sq_pole (a := e) (l := n) (b := a) (m := m) h
    rw [e1, e2, e3, e4]
    exact ⟨rfl, rfl⟩
/-- Half a turn is in the fan to the opposite place. -/
theorem ds_far {a l m' : Int} (p : Pl a l) (h0 : 0 ≤ m') (h1 : m' < 129600000) (h : m' = l + 64800000 ∨ l = m' + 64800000) : dsL a l (-a) m' ≤ 64800000 ∧ dsH a l (-a) m' = 64800000 := by
  have f := far_ds (a := a) (l := l) (b := a) (m := l) (m' := m') ⟨p, p, h0, h1, h⟩
  have s := ds_same (a := a) (l := l) (b := a) (m := l) ⟨rfl, Or.inl rfl⟩
  have b := ds_bd a l (-a) m'
  omega
/-- Upside down, or turned around, it is as far. -/
theorem sq_down (a l b m : Int) : sqL (-a) l (-b) m = sqL a l b m ∧ sqH (-a) l (-b) m = sqH a l b m := by
  have o := o_neg (b - a)
  rw [show -(b - a) = -b - -a by omega] at o
  unfold sqL sqH tL tH bL bH
  rw [(k_neg a).1, (k_neg a).2, (k_neg b).1, (k_neg b).2, o.1, o.2]
  exact ⟨rfl, rfl⟩
theorem sq_round {a l b m l' m' : Int} (h : ∃ n : Int, m' - l' = m - l + 129600000 * n) : sqL a l' b m' = sqL a l b m ∧ sqH a l' b m' = sqH a l b m := by
  obtain ⟨n, e⟩ := h
  have o := o_turns (m - l) n
  unfold sqL sqH tL tH
  rw [e, o.1, o.2]
  exact ⟨rfl, rfl⟩
/-- What is surely nearer is not surely farther. -/
theorem near_ds {e n a l b m : Int} (h : sqL e n a l ≤ sqH e n b m) : dsL e n a l ≤ dsH e n b m := by
  have s := sq_bd e n a l
  have t := sq_bd e n b m
  have u := ds_bd e n b m
  have mo := rtm_mono s.1 h
  have r := rt_bd s.1
  have k := sb_meet (x := min (SM.rtLo (sqL e n a l)) 1000000000) (by omega) mo (by omega)
  unfold dsL dsH at *
  omega
end SI
end Go.Proofs.YtiidbbnclhknpaaDoor
