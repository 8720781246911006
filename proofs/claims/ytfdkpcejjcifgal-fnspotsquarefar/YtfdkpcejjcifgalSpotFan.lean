/-
  The fan from place to place: its ends in order; straight up, and around the middle. No Go text in sight.
-/
import Derived.Test.YtfdkpcejjcifgalSpotMath
namespace Go.Proofs.Ytfdkpcejjcifgal
namespace SI
set_option linter.unusedVariables false
theorem siL_nn {k : Int} (h0 : 0 ≤ k) (h1 : k ≤ 129600000) : 0 ≤ siL k := by
  unfold siL
  rw [show k % 259200000 = k by omega]
  by_cases z : 129600000 ≤ k
  · rw [if_pos z, show k - 129600000 = 0 by omega, ha0.2]
    decide
  · rw [if_neg z]
    exact (ha_enc h0 (by omega)).2.2
theorem siH_pos {k : Int} (h0 : 0 < k) (h1 : k ≤ 64800000) : 0 < siH k := by
  have := si_strictH (h := 0) (by decide) h0 h1
  rw [ex0.1] at this
  exact this
theorem sbH_nn {x : Int} (h0 : 0 ≤ x) (h1 : x ≤ 1000000000) : 0 ≤ sbH x := by
  have b := sb_of (x := x) (by omega) h1
  by_cases c : 0 ≤ sbH x
  · exact c
  · have p := siH_pos (k := -(2 * sbH x)) (by omega) (by have := b.h0; omega)
    have n := (si_neg (-(2 * sbH x))).1
    rw [Int.neg_neg] at n
    have := b.hi
    omega
/-- What the root of a span's end is clipped to. -/
theorem rt_bd {x : Int} (h0 : 0 ≤ x) : 0 ≤ min (SM.rtLo x) 1000000000 ∧ min (SM.rtLo x) 1000000000 ≤ min (SM.rtHi x) 1000000000 := by
  have a := SM.rtLo_nn x
  have b := SM.rtHi_or x
  omega
theorem rtm_mono {x y : Int} (h0 : 0 ≤ x) (h : x ≤ y) : min (SM.rtLo x) 1000000000 ≤ min (SM.rtHi y) 1000000000 := by
  have a := SM.rtHi_mono h0 h
  have b := rt_bd h0
  omega
theorem ds_bd (a l b m : Int) : 0 ≤ dsL a l b m ∧ dsL a l b m ≤ dsH a l b m ∧ dsH a l b m ≤ 64800000 := by
  have s := sq_bd a l b m
  have le := sq_le a l b m
  have mo := rtm_mono s.1 le
  have r := rt_bd s.1
  have n := sbH_nn (x := min (SM.rtHi (sqH a l b m)) 1000000000) (by omega) (by omega)
  have e := sb_meet (x := min (SM.rtLo (sqL a l b m)) 1000000000) (by omega) mo (by omega)
  have t := (sb_of (x := min (SM.rtHi (sqH a l b m)) 1000000000) (by omega) (by omega)).h1
  unfold dsL dsH
  omega
/-- The fan of the angle whose sine's square is reckoned has the angle. -/
theorem fan_at {k : Int} (h0 : 0 ≤ k) (h1 : k ≤ 64800000) : 2 * sbL (min (SM.rtLo (oL k)) 1000000000) ≤ k ∧ k ≤ 2 * sbH (min (SM.rtHi (oH k)) 1000000000) := by
  have n := siL_nn h0 (by omega)
  obtain ⟨_, f⟩ := si_enc k
  have f1 := f.b
  have f2 := f.c
  obtain ⟨e1, e2⟩ := mul_nnI n f1 n f1
  have p0 : 0 ≤ siL k * siL k := Int.mul_nonneg n n
  have p1 : siH k * siH k ≤ 1000000000 * 1000000000 := Int.mul_le_mul f2 f2 (by omega) (by decide)
  have p2 : siL k * siL k ≤ siH k * siH k := Int.mul_le_mul f1 f1 n (by omega)
  have oe : 0 ≤ oL k ∧ 1000000000 * oL k ≤ siL k * siL k ∧ siH k * siH k ≤ 1000000000 * oH k ∧ 0 ≤ oH k := by
    unfold oL oH
    rw [e1, e2]
    generalize siL k * siL k = p at *
    generalize siH k * siH k = t at *
    unfold clp NM.down NM.up
    omega
  have lo : SM.rtLo (oL k) ≤ siL k := by
    by_cases c : SM.rtLo (oL k) ≤ siL k
    · exact c
    · have q1 := (SM.rtLo_sq oe.1).1
      have q2 := Int.mul_le_mul (show siL k + 1 ≤ SM.rtLo (oL k) by omega) (show siL k + 1 ≤ SM.rtLo (oL k) by omega) (by omega) (SM.rtLo_nn _)
      have q3 : (siL k + 1) * (siL k + 1) = siL k * siL k + 2 * siL k + 1 := by rw [Int.add_mul, Int.mul_add]; omega
      omega
  have hi : siH k ≤ SM.rtHi (oH k) := by
    by_cases c : siH k ≤ SM.rtHi (oH k)
    · exact c
    · have q1 := SM.rtHi_sq oe.2.2.2
      have q0 := SM.rtHi_or (oH k)
      have qn := SM.rtLo_nn (oH k)
      have q2 := Int.mul_le_mul (show SM.rtHi (oH k) + 1 ≤ siH k by omega) (show SM.rtHi (oH k) + 1 ≤ siH k by omega) (by omega) (by omega)
      have q3 : (SM.rtHi (oH k) + 1) * (SM.rtHi (oH k) + 1) = SM.rtHi (oH k) * SM.rtHi (oH k) + 2 * SM.rtHi (oH k) + 1 := by rw [Int.add_mul, Int.mul_add]; omega
      omega
  have r1 := rt_bd oe.1
  have r2 := SM.rtLo_nn (oH k)
  have r3 := SM.rtHi_or (oH k)
  have b1 := sb_of (x := min (SM.rtLo (oL k)) 1000000000) (by omega) (by omega)
  have b2 := sb_of (x := min (SM.rtHi (oH k)) 1000000000) (by omega) (by omega)
  have bn := sbH_nn (x := min (SM.rtHi (oH k)) 1000000000) (by omega) (by omega)
  constructor
  · by_cases c : 2 * sbL (min (SM.rtLo (oL k)) 1000000000) ≤ k
    · exact c
    · have s := si_strictH h0 (show k < 2 * sbL (min (SM.rtLo (oL k)) 1000000000) by omega) (by have := b1.l1; omega)
      have := b1.lo
      omega
  · by_cases c : k ≤ 2 * sbH (min (SM.rtHi (oH k)) 1000000000)
    · exact c
    · have s := si_strictH (h := 2 * sbH (min (SM.rtHi (oH k)) 1000000000)) (by omega) (show _ < k by omega) h1
      have := b2.hi
      omega
theorem o_abs (x : Int) : oL x = oL (max x (-x)) ∧ oH x = oH (max x (-x)) := by
  rcases Int.le_total 0 x with h | h
  · rw [show max x (-x) = x by omega]; exact ⟨rfl, rfl⟩
  · rw [show max x (-x) = -x by omega, (o_neg x).1, (o_neg x).2]; exact ⟨rfl, rfl⟩
/-- Straight up. -/
theorem ds_up {a l b : Int} (a0 : -32400000 ≤ a) (a1 : a ≤ 32400000) (b0 : -32400000 ≤ b) (b1 : b ≤ 32400000) : dsL a l b l ≤ max (b - a) (-(b - a)) ∧ max (b - a) (-(b - a)) ≤ dsH a l b l := by
  have f := fan_at (k := max (b - a) (-(b - a))) (by omega) (by omega)
  have o := o_abs (b - a)
  have s := sq_up a l b
  unfold dsL dsH
  rw [s.1, s.2, o.1, o.2]
  omega
/-- To the end. -/
theorem ds_pole {a l m : Int} (a0 : -32400000 ≤ a) (a1 : a ≤ 32400000) : dsL a l 32400000 m ≤ 32400000 - a ∧ 32400000 - a ≤ dsH a l 32400000 m := by
  have f := fan_at (k := 32400000 - a) (by omega) (by omega)
  have s := sq_pole (a := a) (l := l) (b := 32400000) (m := m) (Or.inl rfl)
  unfold dsL dsH
  rw [s.1, s.2]
  omega
theorem o_lack (x : Int) : oL (129600000 - x) = oL x ∧ oH (129600000 - x) = oH x := by
  obtain ⟨e1, e2⟩ := si_lack x
  unfold oL oH
  rw [e1, e2]
  exact ⟨rfl, rfl⟩
/-- Around the middle: the shorter way. -/
theorem ds_mid {l m k : Int} (k0 : 0 ≤ k) (k1 : k ≤ 64800000) (h : ∃ n : Int, m - l = k + 129600000 * n ∨ m - l = -k + 129600000 * n) : dsL 0 l 0 m ≤ k ∧ k ≤ dsH 0 l 0 m := by
  have f := fan_at k0 k1
  have o : oL (m - l) = oL k ∧ oH (m - l) = oH k := by
    obtain ⟨n, e | e⟩ := h
    · rw [e]; exact o_turns k n
    · rw [e, (o_turns (-k) n).1, (o_turns (-k) n).2]; exact o_neg k
  have s := sq_mid l m
  unfold dsL dsH
  rw [s.1, s.2, o.1, o.2]
  omega
end SI
end Go.Proofs.Ytfdkpcejjcifgal
