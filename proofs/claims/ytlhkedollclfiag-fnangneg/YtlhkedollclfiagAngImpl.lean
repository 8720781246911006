/-
  The parts of an angle, by the program: what its AngParts and AngOf answer.
-/
import Derived.Test.YtlhkedollclfiagRows
import Derived.Test.YtlhkedollclfiagAngWalks
import Derived.Test.YtlhkedollclfiagAngTurns
import Derived.WalkKit
import Derived.Below
import Derived.LoopN
import Derived.Lib.MinMax
namespace Go.Proofs.Ytlhkedollclfiag
open Go.RowKit
set_option linter.unusedVariables false
namespace AW
open AM
theorem isT_any (a : Int) (w : World) :
    Calls Try.prog 23 #[.int .i64 a] w fun e w' => e = .returned (.bool (inT a)) ∧ w' = w := by
  by_cases h1 : -129600000 ≤ a
  · by_cases h2 : a ≤ 129600000
    · have H := Hide.mk (inT_mk h1 h2).symm
      go_enter Try.func23, Try.ntmps23
      go_wp2
      go_ret
      exact ⟨NW.ret_bool H.out, rfl⟩
    · have H := Hide.mk (inT_no (a := a) (by omega)).symm
      go_enter Try.func23, Try.ntmps23
      go_wp2
      go_ret
      exact ⟨NW.ret_bool H.out, rfl⟩
  · have H := Hide.mk (inT_no (a := a) (by omega)).symm
    go_enter Try.func23, Try.ntmps23
    go_wp2
    go_ret
    exact ⟨NW.ret_bool H.out, rfl⟩
theorem size_any (a : Int) (w : World) (h : inT a = true) :
    Calls Try.prog 46 #[.int .i64 a] w fun e w' => e = .returned (.int .i64 (ab a)) ∧ w' = w := by
  obtain ⟨a0, a1⟩ := inT_of h
  have H : Hide (max a (-a) = ab a) := ⟨by unfold ab; split <;> omega⟩
  clear h
  go_enter Try.func46, Try.ntmps46
  go_wp2
  go_ret
  exact ⟨NW.ret_int H.out, rfl⟩
theorem deg_any (a : Int) (w : World) (h : inT a = true) :
    Calls Try.prog 38 #[.int .i64 a] w fun e w' => e = .returned (.int .i64 (deg a)) ∧ w' = w := by
  have S := size_any a w h
  obtain ⟨b0, b1⟩ := ab_bd h
  unfold deg
  generalize ab a = b at *
  go_enter Try.func38, Try.ntmps38
  go_wp2_with fail
  refine S.mono ?_
  rintro e w' ⟨rfl, rfl⟩
  go_wp2
  go_ret
  exact ⟨rfl, rfl⟩
theorem mi_any (a : Int) (w : World) (h : inT a = true) :
    Calls Try.prog 39 #[.int .i64 a] w fun e w' => e = .returned (.int .i64 (mi a)) ∧ w' = w := by
  have S := size_any a w h
  obtain ⟨b0, b1⟩ := ab_bd h
  unfold mi
  generalize ab a = b at *
  go_enter Try.func39, Try.ntmps39
  go_wp2_with fail
  refine S.mono ?_
  rintro e w' ⟨rfl, rfl⟩
  go_wp2
  go_ret
  exact ⟨rfl, rfl⟩
theorem se_any (a : Int) (w : World) (h : inT a = true) :
    Calls Try.prog 40 #[.int .i64 a] w fun e w' => e = .returned (.int .i64 (se a)) ∧ w' = w := by
  have S := size_any a w h
  obtain ⟨b0, b1⟩ := ab_bd h
  unfold se
  generalize ab a = b at *
  go_enter Try.func40, Try.ntmps40
  go_wp2_with fail
  refine S.mono ?_
  rintro e w' ⟨rfl, rfl⟩
  go_wp2
  go_ret
  exact ⟨rfl, rfl⟩
theorem hu_any (a : Int) (w : World) (h : inT a = true) :
    Calls Try.prog 41 #[.int .i64 a] w fun e w' => e = .returned (.int .i64 (hu a)) ∧ w' = w := by
  have S := size_any a w h
  obtain ⟨b0, b1⟩ := ab_bd h
  unfold hu
  generalize ab a = b at *
  go_enter Try.func41, Try.ntmps41
  go_wp2_with fail
  refine S.mono ?_
  rintro e w' ⟨rfl, rfl⟩
  go_wp2
  go_ret
  exact ⟨rfl, rfl⟩
abbrev fourV (d m s h : Int) : Value := .agg #[.int .i64 d, .int .i64 m, .int .i64 s, .int .i64 h]
theorem partsOf_any (a : Int) (w : World) (h : inT a = true) :
    Calls Try.prog 24 #[.int .i64 a] w fun e w' => e = .returned (fourV (deg a) (mi a) (se a) (hu a)) ∧ Below w.heap.size w w' := by
  have S1 := fun w => deg_any a w h
  have S2 := fun w => mi_any a w h
  have S3 := fun w => se_any a w h
  have S4 := fun w => hu_any a w h
  clear h
  generalize deg a = x1 at *
  generalize mi a = x2 at *
  generalize se a = x3 at *
  generalize hu a = x4 at *
  have i0 : ∀ w : World, (Instr.index 62 (.agg #[.func (.func 38) #[] #[], .func (.func 39) #[] #[], .func (.func 40) #[] #[], .func (.func 41) #[] #[]]) (.int .i64 0)).run Try.prog w = .ok (.func (.func 38) #[] #[]) w := fun _ => by kernel_rfl
  have i1 : ∀ w : World, (Instr.index 62 (.agg #[.func (.func 38) #[] #[], .func (.func 39) #[] #[], .func (.func 40) #[] #[], .func (.func 41) #[] #[]]) (.int .i64 1)).run Try.prog w = .ok (.func (.func 39) #[] #[]) w := fun _ => by kernel_rfl
  have i2 : ∀ w : World, (Instr.index 62 (.agg #[.func (.func 38) #[] #[], .func (.func 39) #[] #[], .func (.func 40) #[] #[], .func (.func 41) #[] #[]]) (.int .i64 2)).run Try.prog w = .ok (.func (.func 40) #[] #[]) w := fun _ => by kernel_rfl
  have i3 : ∀ w : World, (Instr.index 62 (.agg #[.func (.func 38) #[] #[], .func (.func 39) #[] #[], .func (.func 40) #[] #[], .func (.func 41) #[] #[]]) (.int .i64 3)).run Try.prog w = .ok (.func (.func 41) #[] #[]) w := fun _ => by kernel_rfl
  go_enter Try.func24, Try.ntmps24
  go_wp2_with fail
  refine wp_loop_rounds 5 ?_
  rw [rounds_succ]
  go_wp2_with fail
  refine (S1 _).mono ?_
  rintro e w' ⟨rfl, rfl⟩
  go_wp2_with fail
  rw [rounds_succ]
  go_wp2_with fail
  refine (S2 _).mono ?_
  rintro e w' ⟨rfl, rfl⟩
  go_wp2_with fail
  rw [rounds_succ]
  go_wp2_with fail
  refine (S3 _).mono ?_
  rintro e w' ⟨rfl, rfl⟩
  go_wp2_with fail
  rw [rounds_succ]
  go_wp2_with fail
  refine (S4 _).mono ?_
  rintro e w' ⟨rfl, rfl⟩
  go_wp2_with fail
  rw [rounds_succ]
  go_wp2
  refine bodyPost_ret (v := fourV x1 x2 x3 x4) (by simp [results, Try.results24, go_sem]) rfl ⟨rfl, ?_⟩
  exact below1 (below1 (below_new _ _) (below_new _ _)) (below_new _ _)
theorem five_fz {w w1 : World} {l : Bool} {d m s h : Int} {t : TypeId} (B : Below (w.alloc (.cells #[.bool l, .int .i64 d, .int .i64 m, .int .i64 s, .int .i64 h] t)).heap.size (w.alloc (.cells #[.bool l, .int .i64 d, .int .i64 m, .int .i64 s, .int .i64 h] t)) w1) (o : Nat) : w1.frozen? ⟨w.heap.size, o, none⟩ = false := by
  rw [World.frozen?_of_block (w := w.alloc (.cells #[.bool l, .int .i64 d, .int .i64 m, .int .i64 s, .int .i64 h] t)) (B.block w.heap.size (by simp))]
  simp [go_sem]
theorem from0_any (n m : Int) (w : World) :
    Calls Try.prog 45 #[.int .i64 n, .int .i64 m] w fun e w' => e = .returned (.bool (NM.inB n 0 m)) ∧ w' = w := by
  by_cases h1 : 0 ≤ n
  · by_cases h2 : n ≤ m
    · have H : Hide (true = NM.inB n 0 m) := ⟨(decide_eq_true ⟨h1, h2⟩).symm⟩
      go_enter Try.func45, Try.ntmps45
      go_wp2
      go_ret
      exact ⟨NW.ret_bool H.out, rfl⟩
    · have H : Hide (false = NM.inB n 0 m) := ⟨(decide_eq_false (fun h => h2 h.2)).symm⟩
      go_enter Try.func45, Try.ntmps45
      go_wp2
      go_ret
      exact ⟨NW.ret_bool H.out, rfl⟩
  · have H : Hide (false = NM.inB n 0 m) := ⟨(decide_eq_false (fun h => h1 h.1)).symm⟩
    go_enter Try.func45, Try.ntmps45
    go_wp2
    go_ret
    exact ⟨NW.ret_bool H.out, rfl⟩
theorem inForm_any (l : Bool) (d m s h : Int) (w : World) :
    Calls Try.prog 37 #[angV l d m s h] w fun e w' => e = .returned (.bool (rangeB d m s h)) ∧ Below w.heap.size w w' := by
  unfold rangeB
  cases e1 : NM.inB d 0 360
  · go_enter Try.func37, Try.ntmps37
    go_wp2_with fail
    refine (from0_any _ _ _).mono ?_
    rintro e w' ⟨rfl, rfl⟩
    go_wp2
    go_ret
    exact ⟨rfl, below_new _ _⟩
  · cases e2 : NM.inB m 0 59
    · go_enter Try.func37, Try.ntmps37
      go_wp2_with fail
      refine (from0_any _ _ _).mono ?_
      rintro e w' ⟨rfl, rfl⟩
      go_wp2_with fail
      refine (from0_any _ _ _).mono ?_
      rintro e w' ⟨rfl, rfl⟩
      go_wp2
      go_ret
      exact ⟨rfl, below_new _ _⟩
    · cases e3 : NM.inB s 0 59
      · go_enter Try.func37, Try.ntmps37
        go_wp2_with fail
        refine (from0_any _ _ _).mono ?_
        rintro e w' ⟨rfl, rfl⟩
        go_wp2_with fail
        refine (from0_any _ _ _).mono ?_
        rintro e w' ⟨rfl, rfl⟩
        go_wp2_with fail
        refine (from0_any _ _ _).mono ?_
        rintro e w' ⟨rfl, rfl⟩
        go_wp2
        go_ret
        exact ⟨rfl, below_new _ _⟩
      · go_enter Try.func37, Try.ntmps37
        go_wp2_with fail
        refine (from0_any _ _ _).mono ?_
        rintro e w' ⟨rfl, rfl⟩
        go_wp2_with fail
        refine (from0_any _ _ _).mono ?_
        rintro e w' ⟨rfl, rfl⟩
        go_wp2_with fail
        refine (from0_any _ _ _).mono ?_
        rintro e w' ⟨rfl, rfl⟩
        go_wp2_with fail
        refine (from0_any _ _ _).mono ?_
        rintro e w' ⟨rfl, rfl⟩
        go_wp2
        go_ret
        exact ⟨rfl, below_new _ _⟩
theorem of_any (l : Bool) (d m s h : Int) (w : World) :
    Calls Try.prog 21 #[angV l d m s h] w fun e w' => e = .returned (.tuple #[.int .i64 (ofV l d m s h), .bool (ofB l d m s h)]) ∧ Below w.heap.size w w' := by
  have no : ofB l d m s h = false → Ending.returned (.tuple #[.int .i64 0, .bool false]) = .returned (.tuple #[.int .i64 (ofV l d m s h), .bool (ofB l d m s h)]) := fun e => by rw [of_no e, e]
  have yes : ∀ x, ofB l d m s h = true → x = ofW l d m s h → Ending.returned (.tuple #[.int .i64 x, .bool true]) = .returned (.tuple #[.int .i64 (ofV l d m s h), .bool (ofB l d m s h)]) := fun x e k => by rw [of_yes e, e, k]
  have R := fun w => inForm_any l d m s h w
  have F := Five.new w l d m s h 42
  cases hr : rangeB d m s h
  · rw [hr] at R
    have N := Hidden.mk (no (by simp [ofB, hr]))
    clear no yes
    go_enter Try.func21, Try.ntmps21
    go_wp2_with fail
    refine (R _).mono ?_
    rintro e w1 ⟨rfl, B1⟩
    replace B1 := below1 (below_new w _) B1
    clear F R
    go_wp2
    go_ret2
    exact ⟨N.out, B1⟩
  · rw [hr] at R
    have bd : 0 ≤ whole d m s h ∧ whole d m s h ≤ 130000000 := by
      obtain ⟨⟨d0, d1⟩, ⟨m0, m1⟩, ⟨s0, s1⟩, h0, h1⟩ := range_of hr
      unfold whole
      omega
    obtain ⟨⟨d0, d1⟩, ⟨m0, m1⟩, ⟨s0, s1⟩, h0, h1⟩ := range_of hr
    by_cases g : whole d m s h ≤ 129600000
    · have g' : d * 360000 + m * 6000 + s * 100 + h ≤ 129600000 := g
      cases l
      · have N := Hidden.mk (yes (d * 360000 + m * 6000 + s * 100 + h) (by simp [ofB, hr, g]) rfl)
        clear no yes
        go_enter Try.func21, Try.ntmps21
        go_wp2_with fail
        refine (R _).mono ?_
        rintro e w1 ⟨rfl, B1⟩
        replace F := F.kept B1
        replace B1 := below1 (below_new w _) B1
        clear R hr bd g
        obtain ⟨c0, c1, c2, c3, c4⟩ := F
        by_cases z : d * 360000 + m * 6000 + s * 100 + h = 0
        · obtain ⟨rfl, rfl, rfl, rfl⟩ : d = 0 ∧ m = 0 ∧ s = 0 ∧ h = 0 := by omega
          go_wp2
          go_ret2
          exact ⟨N.out, B1⟩
        · have z' : (d * 360000 + m * 6000 + s * 100 + h == 0) = false := by simpa using z
          clear z
          go_wp2
          go_ret2
          exact ⟨N.out, B1⟩
      · by_cases z : d * 360000 + m * 6000 + s * 100 + h = 0
        · have N := Hidden.mk (no (by have : whole d m s h = 0 := z; simp [ofB, this]))
          clear no yes
          go_enter Try.func21, Try.ntmps21
          go_wp2_with fail
          refine (R _).mono ?_
          rintro e w1 ⟨rfl, B1⟩
          replace F := F.kept B1
          replace B1 := below1 (below_new w _) B1
          clear R hr bd g
          obtain ⟨rfl, rfl, rfl, rfl⟩ : d = 0 ∧ m = 0 ∧ s = 0 ∧ h = 0 := by omega
          obtain ⟨c0, c1, c2, c3, c4⟩ := F
          go_wp2
          go_ret2
          exact ⟨N.out, B1⟩
        · have N := Hidden.mk (yes (-(d * 360000 + m * 6000 + s * 100 + h)) (by have : ¬ whole d m s h = 0 := z; simp [ofB, hr, g, this]) rfl)
          clear no yes
          have z' : (d * 360000 + m * 6000 + s * 100 + h == 0) = false := by simpa using z
          clear z
          go_enter Try.func21, Try.ntmps21
          go_wp2_with fail
          refine (R _).mono ?_
          rintro e w1 ⟨rfl, B1⟩
          replace F := F.kept B1
          replace B1 := below1 (below_new w _) B1
          clear R hr bd g
          obtain ⟨c0, c1, c2, c3, c4⟩ := F
          go_wp2
          go_ret2
          exact ⟨N.out, B1⟩
    · have N := Hidden.mk (no (by simp [ofB, g]))
      have g' : ¬ d * 360000 + m * 6000 + s * 100 + h ≤ 129600000 := g
      clear no yes
      go_enter Try.func21, Try.ntmps21
      go_wp2_with fail
      refine (R _).mono ?_
      rintro e w1 ⟨rfl, B1⟩
      replace F := F.kept B1
      replace B1 := below1 (below_new w _) B1
      clear R hr bd g
      obtain ⟨c0, c1, c2, c3, c4⟩ := F
      go_wp2
      go_ret2
      exact ⟨N.out, B1⟩
end AW
end Go.Proofs.Ytlhkedollclfiag
