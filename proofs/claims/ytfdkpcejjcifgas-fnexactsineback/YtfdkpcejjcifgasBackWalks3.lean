/-
  What the specification's WayOf returns.
-/
import Derived.Test.YtfdkpcejjcifgasBackWalks2
namespace Go.Proofs.Ytfdkpcejjcifgas
open Go.RowKit Go.Sort
set_option linter.unusedVariables false
namespace SK
/-- A place that has an angle. -/
def okW (u r : Int) : Bool := okU u && (okU r && !(u == 0 && r == 0))
theorem okW_of {u r : Int} (h : okW u r = true) : (-1000000000 ≤ u ∧ u ≤ 1000000000) ∧ (-1000000000 ≤ r ∧ r ≤ 1000000000) ∧ (u ≠ 0 ∨ r ≠ 0) := by
  unfold okW at h
  simp only [Bool.and_eq_true, Bool.not_eq_true', Bool.and_eq_false_iff, beq_eq_false_iff_ne] at h
  exact ⟨okU_of h.1, okU_of h.2.1, h.2.2⟩
/-- The quarter's fan, turned. -/
def rtL (u r : Int) : Int := if r < 0 then 64800000 - SI.wqH (max u (-u)) (max r (-r)) else SI.wqL (max u (-u)) (max r (-r))
def rtH (u r : Int) : Int := if r < 0 then 64800000 - SI.wqL (max u (-u)) (max r (-r)) else SI.wqH (max u (-u)) (max r (-r))
def wyL (u r : Int) : Int := if u < 0 then -rtH u r else rtL u r
def wyH (u r : Int) : Int := if u < 0 then -rtL u r else rtH u r
set_option maxHeartbeats 2000000 in
theorem sWayOf_any (u r : Int) (w : World) (hu0 : -9223372036854775807 ≤ u) (hr0 : -9223372036854775807 ≤ r) :
    Calls Try.prog 13 #[.int .i64 u, .int .i64 r] w fun e w' => e = .returned (.tuple #[spV (SM.sel (okW u r) (wyL u r)) (SM.sel (okW u r) (wyH u r)), .bool (okW u r)]) ∧ Below w.heap.size w w' := by
  have K1 := fun w => (show Calls Try.prog 20 #[.int .i64 u, .int .i64 (-1000000000), .int .i64 1000000000] w fun e w' => e = .returned (.bool (okU u)) ∧ w' = w from NW.l6In_any _ _ _ w)
  have K2 := fun w => (show Calls Try.prog 20 #[.int .i64 r, .int .i64 (-1000000000), .int .i64 1000000000] w fun e w' => e = .returned (.bool (okU r)) ∧ w' = w from NW.l6In_any _ _ _ w)
  cases h1 : okU u
  · have e : okW u r = false := by unfold okW; rw [h1]; rfl
    rw [h1] at K1
    rw [e]
    clear e
    go_enter Try.func13, Try.ntmps13
    go_wp2_with fail
    refine (K1 _).mono ?_
    rintro e w' ⟨rfl, rfl⟩
    go_wp2
    refine bodyPost_ret (v := .tuple #[.agg #[.int .i64 0, .int .i64 0], .bool false]) (by simp [results, Try.results13, go_sem]) rfl ⟨rfl, below_new _ _⟩
  · rw [h1] at K1
    cases h2 : okU r
    · have e : okW u r = false := by unfold okW; rw [h1, h2]; rfl
      rw [h2] at K2
      rw [e]
      clear e
      go_enter Try.func13, Try.ntmps13
      go_wp2_with fail
      refine (K1 _).mono ?_
      rintro e w' ⟨rfl, rfl⟩
      go_wp2_with fail
      refine (K2 _).mono ?_
      rintro e w' ⟨rfl, rfl⟩
      go_wp2
      refine bodyPost_ret (v := .tuple #[.agg #[.int .i64 0, .int .i64 0], .bool false]) (by simp [results, Try.results13, go_sem]) rfl ⟨rfl, below_new _ _⟩
    · rw [h2] at K2
      obtain ⟨a0, a1⟩ := okU_of h1
      obtain ⟨b0, b1⟩ := okU_of h2
      by_cases z : u = 0 ∧ r = 0
      · obtain ⟨rfl, rfl⟩ := z
        have e : okW 0 0 = false := rfl
        rw [e]
        clear e
        go_enter Try.func13, Try.ntmps13
        go_wp2_with fail
        refine (K1 _).mono ?_
        rintro e w' ⟨rfl, rfl⟩
        go_wp2_with fail
        refine (K2 _).mono ?_
        rintro e w' ⟨rfl, rfl⟩
        go_wp2
        refine bodyPost_ret (v := .tuple #[.agg #[.int .i64 0, .int .i64 0], .bool false]) (by simp [results, Try.results13, go_sem]) rfl ⟨rfl, below_new _ _⟩
      · have e : okW u r = true := by
          unfold okW
          rw [h1, h2]
          cases hx : (u == 0 && r == 0) with
          | false => rfl
          | true => simp at hx; exact absurd hx z
        rw [e]
        simp only [SM.sel]
        have D := fun w => l13Quart_any (max u (-u)) (max r (-r)) w (by omega) (by omega) (by omega) (by omega)
        have W := SI.wq_of (u := max u (-u)) (r := max r (-r)) (by omega) (by omega)
        obtain ⟨_, _, l0, l1, g0, g1⟩ := W
        clear e
        have EL : Hide (wyL u r = if u < 0 then -rtH u r else rtL u r) := ⟨rfl⟩
        have EH : Hide (wyH u r = if u < 0 then -rtL u r else rtH u r) := ⟨rfl⟩
        have RL : Hide (rtL u r = if r < 0 then 64800000 - SI.wqH (max u (-u)) (max r (-r)) else SI.wqL (max u (-u)) (max r (-r))) := ⟨rfl⟩
        have RH : Hide (rtH u r = if r < 0 then 64800000 - SI.wqL (max u (-u)) (max r (-r)) else SI.wqH (max u (-u)) (max r (-r))) := ⟨rfl⟩
        generalize SI.wqL (max u (-u)) (max r (-r)) = p at *
        generalize SI.wqH (max u (-u)) (max r (-r)) = q at *
        have fin : ∀ x y, wyL u r = x → wyH u r = y → ((.returned (.tuple #[.agg #[.int .i64 x, .int .i64 y], .bool true]) : Ending) = .returned (.tuple #[spV (wyL u r) (wyH u r), .bool true])) := fun x y hx hy => by rw [hx, hy]
        by_cases zr : r < 0 <;> by_cases zu : u < 0
        all_goals rcases (show ¬ u = 0 ∨ (u = 0 ∧ ¬ r = 0) by omega) with c | ⟨rfl, c⟩
        all_goals first | omega | skip
        all_goals go_enter Try.func13, Try.ntmps13
        all_goals go_wp2_with fail
        all_goals refine (K1 _).mono ?_
        all_goals rintro e w' ⟨rfl, rfl⟩
        all_goals go_wp2_with fail
        all_goals refine (K2 _).mono ?_
        all_goals rintro e w' ⟨rfl, rfl⟩
        all_goals go_wp2_with fail
        all_goals try simp only [Int.neg_zero, Int.max_self] at D
        all_goals refine (D _).mono ?_
        all_goals rintro e w1 ⟨rfl, B1⟩
        all_goals have X := (Box.new w 0 0 23).kept B1
        all_goals have B := below1 (below_new w (.cells #[.int .i64 0, .int .i64 0] 23)) B1
        all_goals have x0 := fun o => (X.alloc o).c0
        all_goals have x1 := fun o => (X.alloc o).c1
        all_goals have x2 := fun o => (X.alloc o).f0
        all_goals have x3 := fun o => (X.alloc o).f1
        all_goals clear K1 K2 D h1 h2
        all_goals go_wp2
        · refine bodyPost_ret (v := .tuple #[.agg #[.int .i64 (-(64800000 - p)), .int .i64 (-(64800000 - q))], .bool true]) (by simp [results, Try.results13, go_sem, x0, x1]) rfl ⟨fin _ _ (by rw [EL.out, if_pos (by omega), RH.out, if_pos (by omega)]) (by rw [EH.out, if_pos (by omega), RL.out, if_pos (by omega)]), ?_⟩
          exact below_set2 (below1 B (below_new _ _)) (Nat.le_refl _) _ _
        · refine bodyPost_ret (v := .tuple #[.agg #[.int .i64 (64800000 - q), .int .i64 (64800000 - p)], .bool true]) (by simp [results, Try.results13, go_sem, x0, x1]) rfl ⟨fin _ _ (by rw [EL.out, if_neg (by omega), RL.out, if_pos (by omega)]) (by rw [EH.out, if_neg (by omega), RH.out, if_pos (by omega)]), ?_⟩
          exact below_set2 (below1 B (below_new _ _)) (Nat.le_refl _) _ _
        · refine bodyPost_ret (v := .tuple #[.agg #[.int .i64 (64800000 - q), .int .i64 (64800000 - p)], .bool true]) (by simp [results, Try.results13, go_sem, x0, x1]) rfl ⟨fin _ _ (by rw [EL.out, if_neg (by omega), RL.out, if_pos (by omega)]) (by rw [EH.out, if_neg (by omega), RH.out, if_pos (by omega)]), ?_⟩
          exact below_set2 (below1 B (below_new _ _)) (Nat.le_refl _) _ _
        · refine bodyPost_ret (v := .tuple #[.agg #[.int .i64 (-q), .int .i64 (-p)], .bool true]) (by simp [results, Try.results13, go_sem, x0, x1]) rfl ⟨fin _ _ (by rw [EL.out, if_pos (by omega), RH.out, if_neg (by omega)]) (by rw [EH.out, if_pos (by omega), RL.out, if_neg (by omega)]), ?_⟩
          exact below_set2 (below1 B (below_new _ _)) (Nat.le_refl _) _ _
        · refine bodyPost_ret (v := .tuple #[.agg #[.int .i64 (p), .int .i64 (q)], .bool true]) (by simp [results, Try.results13, go_sem, x0, x1]) rfl ⟨fin _ _ (by rw [EL.out, if_neg (by omega), RL.out, if_neg (by omega)]) (by rw [EH.out, if_neg (by omega), RH.out, if_neg (by omega)]), ?_⟩
          exact below_set2 (below1 B (below_new _ _)) (Nat.le_refl _) _ _
        · refine bodyPost_ret (v := .tuple #[.agg #[.int .i64 (p), .int .i64 (q)], .bool true]) (by simp [results, Try.results13, go_sem, x0, x1]) rfl ⟨fin _ _ (by rw [EL.out, if_neg (by omega), RL.out, if_neg (by omega)]) (by rw [EH.out, if_neg (by omega), RH.out, if_neg (by omega)]), ?_⟩
          exact below_set2 (below1 B (below_new _ _)) (Nat.le_refl _) _ _
end SK
end Go.Proofs.Ytfdkpcejjcifgas
