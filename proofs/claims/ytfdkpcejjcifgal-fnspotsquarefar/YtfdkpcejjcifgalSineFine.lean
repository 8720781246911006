/-
  The spans of sines have the true ones, but for a very little: the turn finely reckoned. No Go text in sight.
-/
import Derived.Test.YtfdkpcejjcifgalSineStrict
namespace Go.Proofs.Ytfdkpcejjcifgal
namespace SI
set_option linter.unusedVariables false
open TS (mul_le sq_nonneg ev neg ab ab_bd q c s xx)
/-! ### the turn, finely reckoned -/
theorem rmul_bd {x y A B : Rat} (h1 : -A ≤ x) (h2 : x ≤ A) (h3 : -B ≤ y) (h4 : y ≤ B) : -(A * B) ≤ x * y ∧ x * y ≤ A * B := by
  have e1 : 0 ≤ (A - x) * (B + y) := Rat.mul_nonneg (by grind) (by grind)
  have e2 : 0 ≤ (A + x) * (B - y) := Rat.mul_nonneg (by grind) (by grind)
  have e3 : 0 ≤ (A - x) * (B - y) := Rat.mul_nonneg (by grind) (by grind)
  have e4 : 0 ≤ (A + x) * (B + y) := Rat.mul_nonneg (by grind) (by grind)
  constructor <;> grind
/-- So fine. -/
def MM : Int := 1000000000000000000000000000000000000000000000
/-- Cosine and sine of so many steps, nearly. -/
structure Nr (n : Nat) (A B E : Int) : Prop where
  c1 : (A : Rat) ≤ (MM : Rat) * c n + (E : Rat)
  c2 : (MM : Rat) * c n ≤ (A : Rat) + (E : Rat)
  s1 : (B : Rat) ≤ (MM : Rat) * s n + (E : Rat)
  s2 : (MM : Rat) * s n ≤ (B : Rat) + (E : Rat)
theorem mm_pos' : (0 : Rat) < (MM : Rat) := by decide +kernel
theorem dbl_aux {m a b e X Y A' B' C' S' : Rat} (M0 : 0 < m) (k0 : 0 ≤ e) (k1 : 4 * e ≤ m) (X1 : X ≤ m) (X2 : -m ≤ X) (Y1 : Y ≤ m) (Y2 : -m ≤ Y) (p1 : a ≤ X + e) (p2 : X ≤ a + e) (p3 : b ≤ Y + e) (p4 : Y ≤ b + e)
    (d1 : A' * m ≤ a * a - b * b) (d1' : a * a - b * b ≤ A' * m + m) (d2 : B' * m ≤ 2 * (a * b)) (d2' : 2 * (a * b) ≤ B' * m + m) (E1 : C' * m = X * X - Y * Y) (E2 : S' * m = 2 * (X * Y)) :
    A' ≤ C' + (5 * e + 1) ∧ C' ≤ A' + (5 * e + 1) ∧ B' ≤ S' + (5 * e + 1) ∧ S' ≤ B' + (5 * e + 1) := by
  have f1 := rmul_bd (x := X - a) (y := X + a) (A := e) (B := 2 * m + e) (by grind) (by grind) (by grind) (by grind)
  have f2 := rmul_bd (x := Y - b) (y := Y + b) (A := e) (B := 2 * m + e) (by grind) (by grind) (by grind) (by grind)
  have f3 := rmul_bd (x := X - a) (y := Y) (A := e) (B := m) (by grind) (by grind) (by grind) (by grind)
  have f4 := rmul_bd (x := Y - b) (y := a) (A := e) (B := m + e) (by grind) (by grind) (by grind) (by grind)
  have f5 := mul_le k1 (x := e) k0
  clear X1 X2 Y1 Y2 p1 p2 p3 p4
  refine ⟨le_of_mul (m := m) M0 ?_, le_of_mul (m := m) M0 ?_, le_of_mul (m := m) M0 ?_, le_of_mul (m := m) M0 ?_⟩
  · clear f3 f4 d2 d2' E2; grind
  · clear f3 f4 d2 d2' E2; grind
  · clear f1 f2 d1 d1' E1; grind
  · clear f1 f2 d1 d1' E1; grind
theorem Nr.dbl {n : Nat} {A B E : Int} (h : Nr n A B E) (e0 : 0 ≤ E) (e1 : 4 * E ≤ MM) : Nr (n + n) ((A * A - B * B) / MM) (2 * (A * B) / MM) (5 * E + 1) := by
  obtain ⟨a1, a2⟩ := TS.add n n
  obtain ⟨x1, x2⟩ := c_bd n
  obtain ⟨y1, y2⟩ := s_bd n
  obtain ⟨p1, p2, p3, p4⟩ := h
  have M0 := mm_pos'
  have d1 := down_bd (A * A - B * B) (m := MM) (by decide)
  have d2 := down_bd (2 * (A * B)) (m := MM) (by decide)
  have k0 := cast_ge e0
  have k1 := cast_ge e1
  rw [cast_mul] at k1
  have z5 : ((5 * E + 1 : Int) : Rat) = 5 * (E : Rat) + 1 := by push_cast; rfl
  have q1 : ((A * A - B * B : Int) : Rat) = (A : Rat) * (A : Rat) - (B : Rat) * (B : Rat) := by push_cast; rfl
  have q2 : ((2 * (A * B) : Int) : Rat) = 2 * ((A : Rat) * (B : Rat)) := by push_cast; rfl
  rw [q1] at d1
  rw [q2] at d2
  unfold NM.down at d1 d2
  have X1 := mul_le x1 (x := (MM : Rat)) (by grind)
  have X2 := mul_le x2 (x := (MM : Rat)) (by grind)
  have Y1 := mul_le y1 (x := (MM : Rat)) (by grind)
  have Y2 := mul_le y2 (x := (MM : Rat)) (by grind)
  have E1 : (MM : Rat) * c (n + n) * (MM : Rat) = ((MM : Rat) * c n) * ((MM : Rat) * c n) - ((MM : Rat) * s n) * ((MM : Rat) * s n) := by rw [a2]; grind
  have E2 : (MM : Rat) * s (n + n) * (MM : Rat) = 2 * (((MM : Rat) * c n) * ((MM : Rat) * s n)) := by rw [a1]; grind
  have R := dbl_aux M0 k0 k1 (by grind) (by grind) (by grind) (by grind) p1 p2 p3 p4 d1.1 d1.2 d2.1 d2.2 E1 E2
  rw [← z5] at R
  exact ⟨R.1, R.2.1, R.2.2.1, R.2.2.2⟩
def Pn : Int := 999999999999999963274327282659552613215882320710619164740156
def Qn : Int := 12120342027738399988124000000000000000000000000000000
def Dn : Int := 1000000000000000036725672717340447386784117679289380835259844
theorem one_aux {P Q D a b e X Y A' B' C' S' : Rat} (D0 : 0 < D) (k0 : 0 ≤ e) (b1 : P + Q ≤ 2 * D) (b2 : 0 ≤ P) (b3 : 0 ≤ Q) (p1 : a ≤ X + e) (p2 : X ≤ a + e) (p3 : b ≤ Y + e) (p4 : Y ≤ b + e)
    (d1 : A' * D ≤ P * a - Q * b) (d1' : P * a - Q * b ≤ A' * D + D) (d2 : B' * D ≤ P * b + Q * a) (d2' : P * b + Q * a ≤ B' * D + D) (E1 : C' * D = P * X - Q * Y) (E2 : S' * D = P * Y + Q * X) :
    A' ≤ C' + (2 * e + 1) ∧ C' ≤ A' + (2 * e + 1) ∧ B' ≤ S' + (2 * e + 1) ∧ S' ≤ B' + (2 * e + 1) := by
  have g1 := mul_le p1 b2
  have g2 := mul_le p2 b2
  have g3 := mul_le p3 b2
  have g4 := mul_le p4 b2
  have g5 := mul_le p1 b3
  have g6 := mul_le p2 b3
  have g7 := mul_le p3 b3
  have g8 := mul_le p4 b3
  have g9 := mul_le b1 k0
  clear p1 p2 p3 p4
  refine ⟨le_of_mul (m := D) D0 ?_, le_of_mul (m := D) D0 ?_, le_of_mul (m := D) D0 ?_, le_of_mul (m := D) D0 ?_⟩
  · clear d2 d2' E2; grind
  · clear d2 d2' E2; grind
  · clear d1 d1' E1; grind
  · clear d1 d1' E1; grind
theorem Nr.one {n : Nat} {A B E : Int} (h : Nr n A B E) (e0 : 0 ≤ E) : Nr (n + 1) ((Pn * A - Qn * B) / Dn) ((Pn * B + Qn * A) / Dn) (2 * E + 1) := by
  obtain ⟨p1, p2, p3, p4⟩ := h
  have a1 := TS.c_succ n
  have a2 := TS.s_succ n
  have D0 : (0 : Rat) < (Dn : Rat) := by decide +kernel
  have ep : TS.p * (Dn : Rat) = (Pn : Rat) := by decide +kernel
  have eq : TS.q * (Dn : Rat) = (Qn : Rat) := by decide +kernel
  have b1 : (Pn : Rat) + (Qn : Rat) ≤ 2 * (Dn : Rat) := by decide +kernel
  have b2 : (0 : Rat) ≤ (Pn : Rat) := by decide +kernel
  have b3 : (0 : Rat) ≤ (Qn : Rat) := by decide +kernel
  have d1 := down_bd (Pn * A - Qn * B) (m := Dn) (by decide)
  have d2 := down_bd (Pn * B + Qn * A) (m := Dn) (by decide)
  have q1 : ((Pn * A - Qn * B : Int) : Rat) = (Pn : Rat) * (A : Rat) - (Qn : Rat) * (B : Rat) := by push_cast; rfl
  have q2 : ((Pn * B + Qn * A : Int) : Rat) = (Pn : Rat) * (B : Rat) + (Qn : Rat) * (A : Rat) := by push_cast; rfl
  rw [q1] at d1
  rw [q2] at d2
  unfold NM.down at d1 d2
  have k0 := cast_ge e0
  have z5 : ((2 * E + 1 : Int) : Rat) = 2 * (E : Rat) + 1 := by push_cast; rfl
  have E1 : (MM : Rat) * c (n + 1) * (Dn : Rat) = (Pn : Rat) * ((MM : Rat) * c n) - (Qn : Rat) * ((MM : Rat) * s n) := by
    rw [a1, ← ep, ← eq]
    generalize (Dn : Rat) = D
    generalize (MM : Rat) = m
    generalize TS.p = u
    generalize TS.q = v
    grind
  have E2 : (MM : Rat) * s (n + 1) * (Dn : Rat) = (Pn : Rat) * ((MM : Rat) * s n) + (Qn : Rat) * ((MM : Rat) * c n) := by
    rw [a2, ← ep, ← eq]
    generalize (Dn : Rat) = D
    generalize (MM : Rat) = m
    generalize TS.p = u
    generalize TS.q = v
    grind
  have R := one_aux D0 k0 b1 b2 b3 p1 p2 p3 p4 d1.1 d1.2 d2.1 d2.2 E1 E2
  rw [← z5] at R
  exact ⟨R.1, R.2.1, R.2.2.1, R.2.2.2⟩
/-- So many steps, by the digits of their number. -/
def runF : List Bool → Nat × Int × Int × Int → Nat × Int × Int × Int
  | [], t => t
  | false :: r, (n, A, B, E) => runF r (n + n, (A * A - B * B) / MM, 2 * (A * B) / MM, 5 * E + 1)
  | true :: r, (n, A, B, E) => runF r (n + n + 1, (Pn * ((A * A - B * B) / MM) - Qn * (2 * (A * B) / MM)) / Dn, (Pn * (2 * (A * B) / MM) + Qn * ((A * A - B * B) / MM)) / Dn, 2 * (5 * E + 1) + 1)
theorem runF_nr : ∀ (r : List Bool) (n : Nat) (A B E : Int), 0 ≤ E → (∀ k : Nat, k = r.length → 4 * ((E + 1) * 16 ^ k) ≤ MM) → Nr n A B E → Nr (runF r (n, A, B, E)).1 (runF r (n, A, B, E)).2.1 (runF r (n, A, B, E)).2.2.1 (runF r (n, A, B, E)).2.2.2 := by
  intro r
  induction r with
  | nil => intro n A B E _ _ h; exact h
  | cons b r ih =>
    intro n A B E e0 e1 h
    have e2 := e1 (r.length + 1) rfl
    have pw : (16 : Int) ^ (r.length + 1) = 16 ^ r.length * 16 := Int.pow_succ _ _
    rw [pw] at e2
    have p1 : (1 : Int) ≤ 16 ^ r.length := by
      have : (0 : Int) < 16 ^ r.length := Int.pow_pos (by decide)
      omega
    have p2 : (E + 1) * (16 ^ r.length * 16) = (E + 1) * 16 ^ r.length * 16 := by rw [Int.mul_assoc]
    have p3 := Int.mul_le_mul_of_nonneg_left p1 (show 0 ≤ E + 1 by omega)
    have hd := h.dbl e0 (by rw [p2] at e2; omega)
    cases b with
    | false =>
      refine ih _ _ _ _ (by omega) (fun k hk => ?_) hd
      subst hk
      have : (5 * E + 1 + 1) * 16 ^ r.length ≤ (E + 1) * 16 ^ r.length * 16 := by
        have a := Int.mul_le_mul_of_nonneg_right (show 5 * E + 1 + 1 ≤ (E + 1) * 16 by omega) (show (0 : Int) ≤ 16 ^ r.length by omega)
        rw [Int.mul_assoc, Int.mul_comm 16, ← Int.mul_assoc] at a
        exact a
      rw [p2] at e2
      omega
    | true =>
      refine ih _ _ _ _ (by omega) (fun k hk => ?_) (hd.one (by omega))
      subst hk
      have : (2 * (5 * E + 1) + 1 + 1) * 16 ^ r.length ≤ (E + 1) * 16 ^ r.length * 16 := by
        have a := Int.mul_le_mul_of_nonneg_right (show 2 * (5 * E + 1) + 1 + 1 ≤ (E + 1) * 16 by omega) (show (0 : Int) ≤ 16 ^ r.length by omega)
        rw [Int.mul_assoc, Int.mul_comm 16, ← Int.mul_assoc] at a
        exact a
      rw [p2] at e2
      omega
theorem nr_zero : Nr 0 MM 0 0 := by
  have z0 : ((0 : Int) : Rat) = 0 := rfl
  refine ⟨?_, ?_, ?_, ?_⟩
  all_goals first | rw [TS.c0] | rw [TS.s0]
  all_goals rw [z0]
  all_goals grind
def bitsQ : List Bool := [true, true, true, true, false, true, true, true, false, false, true, true, false, false, false, true, false, true, false, false, false, false, false, false, false, false, false]
def bitsH : List Bool := [true, false, true, false, false, true, false, false, true, true, false, false, true, false, true, true, true, false, false, false, false, false, false, false, false, false]
theorem run_q : (runF bitsQ (0, MM, 0, 0)).1 = 129600000 ∧ -1000000000000000000000000 ≤ (runF bitsQ (0, MM, 0, 0)).2.1 - (runF bitsQ (0, MM, 0, 0)).2.2.2 ∧ (runF bitsQ (0, MM, 0, 0)).2.1 + (runF bitsQ (0, MM, 0, 0)).2.2.2 ≤ 1000000000000000000000000 ∧ MM - 1000000000000000000000000 ≤ (runF bitsQ (0, MM, 0, 0)).2.2.1 - (runF bitsQ (0, MM, 0, 0)).2.2.2 := by decide +kernel
theorem run_h : (runF bitsH (0, MM, 0, 0)).1 = 43200000 ∧ MM - 2000000000000000000000000 ≤ 2 * ((runF bitsH (0, MM, 0, 0)).2.2.1 - (runF bitsH (0, MM, 0, 0)).2.2.2) ∧ 2 * ((runF bitsH (0, MM, 0, 0)).2.2.1 + (runF bitsH (0, MM, 0, 0)).2.2.2) ≤ MM + 2000000000000000000000000 := by decide +kernel
/-- A very little. -/
def epsF : Rat := 1 / 1000000000000000000000
theorem epsF0 : 0 ≤ epsF := by decide +kernel
theorem quarterF {N : Nat} (hN : N = 64800000) : 1 - epsF ≤ s (N + N) ∧ -epsF ≤ c (N + N) ∧ c (N + N) ≤ epsF := by
  have R := runF_nr bitsQ 0 MM 0 0 (by decide) (fun k hk => by subst hk; decide +kernel) nr_zero
  obtain ⟨e, k1, k2, k3⟩ := run_q
  rw [e] at R
  obtain ⟨r1, r2, r3, r4⟩ := R
  have g1 := cast_ge k1
  have g2 := cast_ge k2
  have g3 := cast_ge k3
  rw [cast_sub] at g1
  rw [cast_add] at g2
  rw [cast_sub, cast_sub] at g3
  have m0 := mm_pos'
  have me : (MM : Rat) * epsF = 1000000000000000000000000 := by decide +kernel
  have c1 : ((-1000000000000000000000000 : Int) : Rat) = -1000000000000000000000000 := rfl
  have c2 : ((1000000000000000000000000 : Int) : Rat) = 1000000000000000000000000 := rfl
  rw [c1] at g1
  rw [c2] at g2 g3
  have eN : N + N = 129600000 := by omega
  rw [eN]
  clear e k1 k2 k3
  generalize ((runF bitsQ (0, MM, 0, 0)).2.1 : Rat) = A at *
  generalize ((runF bitsQ (0, MM, 0, 0)).2.2.1 : Rat) = B at *
  generalize ((runF bitsQ (0, MM, 0, 0)).2.2.2 : Rat) = E at *
  generalize s 129600000 = sv at *
  generalize c 129600000 = cv at *
  refine ⟨le_of_mul (m := (MM : Rat)) m0 ?_, le_of_mul (m := (MM : Rat)) m0 ?_, le_of_mul (m := (MM : Rat)) m0 ?_⟩
  all_goals grind
theorem half_ptF {n : Nat} (hn : n = 43200000) : near (s n) (1 / 2) epsF := by
  have R := runF_nr bitsH 0 MM 0 0 (by decide) (fun k hk => by subst hk; decide +kernel) nr_zero
  obtain ⟨e, k1, k2⟩ := run_h
  rw [e] at R
  obtain ⟨r1, r2, r3, r4⟩ := R
  have g1 := cast_ge k1
  have g2 := cast_ge k2
  rw [cast_sub, cast_mul, cast_sub] at g1
  rw [cast_add, cast_mul, cast_add] at g2
  have m0 := mm_pos'
  have me : (MM : Rat) * epsF = 1000000000000000000000000 := by decide +kernel
  have c2 : ((2000000000000000000000000 : Int) : Rat) = 2000000000000000000000000 := rfl
  have c3 : ((2 : Int) : Rat) = 2 := rfl
  rw [c2, c3] at g1 g2
  subst hn
  clear e k1 k2
  generalize ((runF bitsH (0, MM, 0, 0)).2.2.1 : Rat) = B at *
  generalize ((runF bitsH (0, MM, 0, 0)).2.2.2 : Rat) = E at *
  generalize s 43200000 = sv at *
  unfold near
  refine ⟨le_of_mul (m := (MM : Rat)) m0 ?_, le_of_mul (m := (MM : Rat)) m0 ?_⟩
  all_goals grind
end SI
end Go.Proofs.Ytfdkpcejjcifgal
