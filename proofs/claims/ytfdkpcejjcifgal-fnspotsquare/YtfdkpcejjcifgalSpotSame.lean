/-
  Places that are the same, and opposite ones. No Go text in sight.
-/
import Derived.Test.YtfdkpcejjcifgalSpotFar
namespace Go.Proofs.Ytfdkpcejjcifgal
namespace SI
set_option linter.unusedVariables false
theorem sbH0 : sbH 0 = 0 := by decide +kernel
theorem rt0 : SM.rtLo 0 = 0 ∧ SM.rtHi 0 = 0 := by decide +kernel
/-- The same place: up alike, and around, too, or at an end. -/
def sameP (a l b m : Int) : Prop := a = b ∧ (l = m ∨ a = 32400000 ∨ a = -32400000)
theorem sq_same {a l b m : Int} (h : sameP a l b m) : sqL a l b m = 0 ∧ sqH a l b m = 0 := by
  obtain ⟨rfl, h⟩ := h
  have z : a - a = 0 := by omega
  rcases h with rfl | h
  · obtain ⟨e1, e2⟩ := sq_up a l a
    rw [e1, e2, z]
    exact o_zero
  · obtain ⟨e1, e2⟩ := sq_pole (a := a) (l := l) (b := a) (m := m) h
    rw [e1, e2, z]
    exact o_zero
theorem ds_same {a l b m : Int} (h : sameP a l b m) : dsL a l b m = 0 ∧ dsH a l b m = 0 := by
  obtain ⟨e1, e2⟩ := sq_same h
  have bd := ds_bd a l b m
  have e3 : dsH a l b m = 0 := by
    unfold dsH
    rw [e2, rt0.2]
    show 2 * sbH 0 = 0
    rw [sbH0]
    decide
  omega
/-- From a place two that are the same are as far. -/
theorem sq_from {e n a l b m : Int} (h : sameP a l b m) : sqL e n a l = sqL e n b m ∧ sqH e n a l = sqH e n b m := by
  obtain ⟨rfl, h⟩ := h
  rcases h with rfl | h
  · exact ⟨rfl, rfl⟩
  · obtain ⟨e1, e2⟩ := sq_pole (a := e) (l := n) (b := a) (m := l) h
    obtain ⟨e3, e4⟩ := sq_pole (a := e) (l := n) (b := a) (m := m) h
    rw [e1, e2, e3, e4]
    exact ⟨rfl, rfl⟩
/-- Half a turn is in the fan to the opposite place. -/
theorem ds_far {a l m' : Int} (p : Pl a l) (h0 : 0 ≤ m') (h1 : m' < 129600000) (h : m' = l + 64800000 ∨ l = m' + 64800000) : dsL a l (-a) m' ≤ 64800000 ∧ dsH a l (-a) m' = 64800000 := by
  have f := far_ds (a := a) (l := l) (b := a) (m := l) (m' := m') ⟨p, p, h0, h1, h⟩
  have s := ds_same (a := a) (l := l) (b := a) (m := l) ⟨rfl, Or.inl rfl⟩
  have b := ds_bd a l (-a) m'
  omega
/-- Upside down, or turned around, it is as far. -/
theorem sq_down (a l b m : Int) : sqL (-a) l (-b) m = sqL a l b m ∧ sqH (-a) l (-b) m = sqH a l b m := by
  have o := o_neg (b - a)
  rw [show -(b - a) = -b - -a by omega] at o
  unfold sqL sqH tL tH bL bH
  rw [(k_neg a).1, (k_neg a).2, (k_neg b).1, (k_neg b).2, o.1, o.2]
  exact ⟨rfl, rfl⟩
theorem sq_round {a l b m l' m' : Int} (h : ∃ n : Int, m' - l' = m - l + 129600000 * n) : sqL a l' b m' = sqL a l b m ∧ sqH a l' b m' = sqH a l b m := by
  obtain ⟨n, e⟩ := h
  have o := o_turns (m - l) n
  unfold sqL sqH tL tH
  rw [e, o.1, o.2]
  exact ⟨rfl, rfl⟩
/-- What is surely nearer is not surely farther. -/
theorem near_ds {e n a l b m : Int} (h : sqL e n a l ≤ sqH e n b m) : dsL e n a l ≤ dsH e n b m := by
  have s := sq_bd e n a l
  have t := sq_bd e n b m
  have u := ds_bd e n b m
  have mo := rtm_mono s.1 h
  have r := rt_bd s.1
  have k := sb_meet (x := min (SM.rtLo (sqL e n a l)) 1000000000) (by omega) mo (by omega)
  unfold dsL dsH at *
  omega
end SI
end Go.Proofs.Ytfdkpcejjcifgal
