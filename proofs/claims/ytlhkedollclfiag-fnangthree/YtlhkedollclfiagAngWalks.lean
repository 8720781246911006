/-
  The parts of an angle, by the specification: what its AngParts and AngOf answer.
-/
import Derived.Test.YtlhkedollclfiagRows
import Derived.Test.YtlhkedollclfiagAngText
import Derived.Test.YtlhkedollclfiagTextWalks
import Derived.Test.YtlhkedollclfiagNumWalks
import Derived.WalkKit
import Derived.Below
import Derived.Lib.QuietBelow
namespace Go.Proofs.Ytlhkedollclfiag
open Go.RowKit Go.Sort
set_option linter.unusedVariables false
namespace AW
open AM AT
/-- Hidden from the walk's simp. -/
structure Hidden (p : Prop) : Prop where
  out : p
abbrev angV (l : Bool) (d m s h : Int) : Value := .agg #[.bool l, .int .i64 d, .int .i64 m, .int .i64 s, .int .i64 h]
theorem sParts_no (a : Int) (w : World) (h : inT a = false) :
    Calls Try.prog 27 #[.int .i64 a] w fun e w' => e = .returned (.tuple #[angV false 0 0 0 0, .bool false]) ∧ Below w.heap.size w w' := by
  have h' : NM.inB a (-129600000) 129600000 = false := h
  go_enter Try.func27, Try.ntmps27
  go_wp2_with fail
  refine (NW.l6In_any _ _ _ _).mono ?_
  rintro e w' ⟨rfl, rfl⟩
  go_wp2
  refine bodyPost_ret (v := .tuple #[angV false 0 0 0 0, .bool false]) (by simp [results, Try.results27, go_sem]) rfl ⟨rfl, ?_⟩
  exact below_new _ _
theorem sParts_yes (a : Int) (w : World) (h : inT a = true) :
    Calls Try.prog 27 #[.int .i64 a] w fun e w' => e = .returned (.tuple #[angV (decide (a < 0)) (deg a) (mi a) (se a) (hu a), .bool true]) ∧ Below w.heap.size w w' := by
  have h' : NM.inB a (-129600000) 129600000 = true := h
  obtain ⟨a0, a1⟩ := inT_of h
  by_cases n : a < 0
  · obtain ⟨b, rfl⟩ : ∃ b, a = -b := ⟨-a, by omega⟩
    have eb : ab (-b) = b := by rw [ab_lt n]; omega
    have b0 : 0 < b := by omega
    have b1 : b ≤ 129600000 := by omega
    unfold deg mi se hu
    rw [eb]
    go_enter Try.func27, Try.ntmps27
    go_wp2_with fail
    refine (NW.l6In_any _ _ _ _).mono ?_
    rintro e w' ⟨rfl, rfl⟩
    go_wp2
    refine bodyPost_ret (v := .tuple #[angV true (b / 360000) (b % 360000 / 6000) (b % 6000 / 100) (b % 100), .bool true]) (by simp [results, Try.results27, go_sem]) rfl ⟨by rw [decide_eq_true n], ?_⟩
    exact below1 (below_new _ _) (below_new _ _)
  · unfold deg mi se hu
    rw [ab_ge n]
    have a2 : 0 ≤ a := by omega
    go_enter Try.func27, Try.ntmps27
    go_wp2_with fail
    refine (NW.l6In_any _ _ _ _).mono ?_
    rintro e w' ⟨rfl, rfl⟩
    go_wp2
    refine bodyPost_ret (v := .tuple #[angV false (a / 360000) (a % 360000 / 6000) (a % 6000 / 100) (a % 100), .bool true]) (by simp [results, Try.results27, go_sem, a2]) rfl ⟨by rw [decide_eq_false (show ¬ a < 0 by omega)], ?_⟩
    exact below1 (below_new _ _) (below_new _ _)
/-- An angle by its parts lies in block 'b'. -/
structure Five (w : World) (b : Nat) (l : Bool) (d m s h : Int) : Prop where
  c0 : w.cell? ⟨b, 0, none⟩ = some (.bool l)
  c1 : w.cell? ⟨b, 1, none⟩ = some (.int .i64 d)
  c2 : w.cell? ⟨b, 2, none⟩ = some (.int .i64 m)
  c3 : w.cell? ⟨b, 3, none⟩ = some (.int .i64 s)
  c4 : w.cell? ⟨b, 4, none⟩ = some (.int .i64 h)
theorem Five.kept {w w' : World} {b : Nat} {l : Bool} {d m s h : Int} (f : Five w b l d m s h) (k : Below w.heap.size w w') : Five w' b l d m s h :=
  ⟨(k.cell (cell_lt f.c0)).trans f.c0, (k.cell (cell_lt f.c1)).trans f.c1, (k.cell (cell_lt f.c2)).trans f.c2, (k.cell (cell_lt f.c3)).trans f.c3, (k.cell (cell_lt f.c4)).trans f.c4⟩
theorem Five.new (w : World) (l : Bool) (d m s h : Int) (t : TypeId) : Five (w.alloc (.cells #[.bool l, .int .i64 d, .int .i64 m, .int .i64 s, .int .i64 h] t)) w.heap.size l d m s h :=
  ⟨by simp [go_sem], by simp [go_sem], by simp [go_sem], by simp [go_sem], by simp [go_sem]⟩
theorem sWhole_any (l : Bool) (d m s h : Int) (w : World) (hr : rangeB d m s h = true) :
    Calls Try.prog 36 #[angV l d m s h] w fun e w' => e = .returned (.int .i64 (whole d m s h)) ∧ Below w.heap.size w w' := by
  obtain ⟨⟨d0, d1⟩, ⟨m0, m1⟩, ⟨s0, s1⟩, h0, h1⟩ := range_of hr
  have H : Hidden (d * 360000 + m * 6000 + s * 100 + h = whole d m s h) := ⟨rfl⟩
  go_enter Try.func36, Try.ntmps36
  go_wp2
  go_ret
  exact ⟨NW.ret_int H.out, below_new _ _⟩
theorem sOf_any (l : Bool) (d m s h : Int) (w : World) :
    Calls Try.prog 20 #[angV l d m s h] w fun e w' => e = .returned (.tuple #[.int .i64 (ofV l d m s h), .bool (ofB l d m s h)]) ∧ Below w.heap.size w w' := by
  have no : ofB l d m s h = false → Ending.returned (.tuple #[.int .i64 0, .bool false]) = .returned (.tuple #[.int .i64 (ofV l d m s h), .bool (ofB l d m s h)]) := fun e => by rw [of_no e, e]
  cases e1 : NM.inB d 0 360
  · have hn : ofB l d m s h = false := by simp [ofB, rangeB, e1]
    have N := Hidden.mk (no hn)
    go_enter Try.func20, Try.ntmps20
    go_wp2_with fail
    refine (NW.l6In_any _ _ _ _).mono ?_
    rintro e w' ⟨rfl, rfl⟩
    go_wp2
    go_ret2
    exact ⟨N.out, below_new _ _⟩
  · cases e2 : NM.inB m 0 59
    · have hn : ofB l d m s h = false := by simp [ofB, rangeB, e2]
      have N := Hidden.mk (no hn)
      go_enter Try.func20, Try.ntmps20
      go_wp2_with fail
      refine (NW.l6In_any _ _ _ _).mono ?_
      rintro e w' ⟨rfl, rfl⟩
      go_wp2_with fail
      refine (NW.l6In_any _ _ _ _).mono ?_
      rintro e w' ⟨rfl, rfl⟩
      go_wp2
      go_ret2
      exact ⟨N.out, below_new _ _⟩
    · cases e3 : NM.inB s 0 59
      · have hn : ofB l d m s h = false := by simp [ofB, rangeB, e3]
        have N := Hidden.mk (no hn)
        go_enter Try.func20, Try.ntmps20
        go_wp2_with fail
        refine (NW.l6In_any _ _ _ _).mono ?_
        rintro e w' ⟨rfl, rfl⟩
        go_wp2_with fail
        refine (NW.l6In_any _ _ _ _).mono ?_
        rintro e w' ⟨rfl, rfl⟩
        go_wp2_with fail
        refine (NW.l6In_any _ _ _ _).mono ?_
        rintro e w' ⟨rfl, rfl⟩
        go_wp2
        go_ret2
        exact ⟨N.out, below_new _ _⟩
      · cases e4 : NM.inB h 0 99
        · have hn : ofB l d m s h = false := by simp [ofB, rangeB, e4]
          have N := Hidden.mk (no hn)
          go_enter Try.func20, Try.ntmps20
          go_wp2_with fail
          refine (NW.l6In_any _ _ _ _).mono ?_
          rintro e w' ⟨rfl, rfl⟩
          go_wp2_with fail
          refine (NW.l6In_any _ _ _ _).mono ?_
          rintro e w' ⟨rfl, rfl⟩
          go_wp2_with fail
          refine (NW.l6In_any _ _ _ _).mono ?_
          rintro e w' ⟨rfl, rfl⟩
          go_wp2_with fail
          refine (NW.l6In_any _ _ _ _).mono ?_
          rintro e w' ⟨rfl, rfl⟩
          go_wp2
          go_ret2
          exact ⟨N.out, below_new _ _⟩
        · have hr : rangeB d m s h = true := by simp [rangeB, e1, e2, e3, e4]
          have wh := sWhole_any l d m s h
          have yes : ∀ x, ofB l d m s h = true → x = ofW l d m s h → Ending.returned (.tuple #[.int .i64 x, .bool true]) = .returned (.tuple #[.int .i64 (ofV l d m s h), .bool (ofB l d m s h)]) := fun x e k => by rw [of_yes e, e, k]
          have bd : 0 ≤ whole d m s h ∧ whole d m s h ≤ 130000000 := by
            obtain ⟨⟨d0, d1⟩, ⟨m0, m1⟩, ⟨s0, s1⟩, h0, h1⟩ := range_of hr
            unfold whole
            omega
          obtain ⟨b0, b1⟩ := bd
          have F := Five.new w l d m s h 42
          go_enter Try.func20, Try.ntmps20
          go_wp2_with fail
          refine (NW.l6In_any _ _ _ _).mono ?_
          rintro e w' ⟨rfl, rfl⟩
          go_wp2_with fail
          refine (NW.l6In_any _ _ _ _).mono ?_
          rintro e w' ⟨rfl, rfl⟩
          go_wp2_with fail
          refine (NW.l6In_any _ _ _ _).mono ?_
          rintro e w' ⟨rfl, rfl⟩
          go_wp2_with fail
          refine (NW.l6In_any _ _ _ _).mono ?_
          rintro e w' ⟨rfl, rfl⟩
          go_wp2_with fail
          refine (wh _ hr).mono ?_
          rintro e w2 ⟨rfl, B2⟩
          obtain ⟨c0, c1, c2, c3, c4⟩ := F.kept B2
          have B := below1 (below_new w _) B2
          clear B2 F wh
          by_cases g : whole d m s h ≤ 129600000
          · cases l
            · have hn : ofB false d m s h = true := by simp [ofB, hr, g]
              have N := Hidden.mk (yes (whole d m s h) hn rfl)
              clear yes no hn hr
              generalize whole d m s h = x at *
              go_wp2
              go_ret2
              exact ⟨N.out, B⟩
            · by_cases z : whole d m s h = 0
              · have hn : ofB true d m s h = false := by simp [ofB, z]
                have N := Hidden.mk (no hn)
                clear yes no hn hr
                generalize whole d m s h = x at *
                subst z
                go_wp2
                go_ret2
                exact ⟨N.out, B⟩
              · have hn : ofB true d m s h = true := by simp [ofB, hr, g, z]
                have N := Hidden.mk (yes (-whole d m s h) hn rfl)
                have z' : (whole d m s h == 0) = false := by simpa using z
                clear yes no hn hr
                generalize whole d m s h = x at *
                go_wp2
                go_ret2
                exact ⟨N.out, B⟩
          · have hn : ofB l d m s h = false := by simp [ofB, g]
            have N := Hidden.mk (no hn)
            clear yes no hn hr
            generalize whole d m s h = x at *
            go_wp2
            go_ret2
            exact ⟨N.out, B⟩
end AW
end Go.Proofs.Ytlhkedollclfiag
