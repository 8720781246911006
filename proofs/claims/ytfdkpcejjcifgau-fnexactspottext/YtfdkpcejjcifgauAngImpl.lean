/-
  The parts of an angle, by the program: what its AngParts and AngOf answer.
-/
import Derived.Test.YtfdkpcejjcifgauRows
import Derived.Test.YtfdkpcejjcifgauAngWalks
import Derived.Test.YtfdkpcejjcifgauAngTurns
import Derived.WalkKit
import Derived.Below
import Derived.LoopN
import Derived.Lib.MinMax
namespace Go.Proofs.Ytfdkpcejjcifgau
open Go.RowKit
set_option linter.unusedVariables false
namespace AW
open AM
theorem isT_any (a : Int) (w : World) :
    Calls Try.prog 37 #[.int .i64 a] w fun e w' => e = .returned (.bool (inT a)) ∧ w' = w := by
  by_cases h1 : -129600000 ≤ a
  · by_cases h2 : a ≤ 129600000
    · have H := Hide.mk (inT_mk h1 h2).symm
      go_enter Try.func37, Try.ntmps37
      go_wp2
      go_ret
      exact ⟨NW.ret_bool H.out, rfl⟩
    · have H := Hide.mk (inT_no (a := a) (by omega)).symm
      go_enter Try.func37, Try.ntmps37
      go_wp2
      go_ret
      exact ⟨NW.ret_bool H.out, rfl⟩
  · have H := Hide.mk (inT_no (a := a) (by omega)).symm
    go_enter Try.func37, Try.ntmps37
    go_wp2
    go_ret
    exact ⟨NW.ret_bool H.out, rfl⟩
theorem size_any (a : Int) (w : World) (h : inT a = true) :
    Calls Try.prog 57 #[.int .i64 a] w fun e w' => e = .returned (.int .i64 (ab a)) ∧ w' = w := by
  obtain ⟨a0, a1⟩ := inT_of h
  have H : Hide (max a (-a) = ab a) := ⟨by unfold ab; split <;> omega⟩
  clear h
  go_enter Try.func57, Try.ntmps57
  go_wp2
  go_ret
  exact ⟨NW.ret_int H.out, rfl⟩
theorem deg_any (a : Int) (w : World) (h : inT a = true) :
    Calls Try.prog 46 #[.int .i64 a] w fun e w' => e = .returned (.int .i64 (deg a)) ∧ w' = w := by
  have S := size_any a w h
  obtain ⟨b0, b1⟩ := ab_bd h
  unfold deg
  generalize ab a = b at *
  go_enter Try.func46, Try.ntmps46
  go_wp2_with fail
  refine S.mono ?_
  rintro e w' ⟨rfl, rfl⟩
  go_wp2
  go_ret
  exact ⟨rfl, rfl⟩
theorem mi_any (a : Int) (w : World) (h : inT a = true) :
    Calls Try.prog 47 #[.int .i64 a] w fun e w' => e = .returned (.int .i64 (mi a)) ∧ w' = w := by
  have S := size_any a w h
  obtain ⟨b0, b1⟩ := ab_bd h
  unfold mi
  generalize ab a = b at *
  go_enter Try.func47, Try.ntmps47
  go_wp2_with fail
  refine S.mono ?_
  rintro e w' ⟨rfl, rfl⟩
  go_wp2
  go_ret
  exact ⟨rfl, rfl⟩
theorem se_any (a : Int) (w : World) (h : inT a = true) :
    Calls Try.prog 48 #[.int .i64 a] w fun e w' => e = .returned (.int .i64 (se a)) ∧ w' = w := by
  have S := size_any a w h
  obtain ⟨b0, b1⟩ := ab_bd h
  unfold se
  generalize ab a = b at *
  go_enter Try.func48, Try.ntmps48
  go_wp2_with fail
  refine S.mono ?_
  rintro e w' ⟨rfl, rfl⟩
  go_wp2
  go_ret
  exact ⟨rfl, rfl⟩
theorem hu_any (a : Int) (w : World) (h : inT a = true) :
    Calls Try.prog 49 #[.int .i64 a] w fun e w' => e = .returned (.int .i64 (hu a)) ∧ w' = w := by
  have S := size_any a w h
  obtain ⟨b0, b1⟩ := ab_bd h
  unfold hu
  generalize ab a = b at *
  go_enter Try.func49, Try.ntmps49
  go_wp2_with fail
  refine S.mono ?_
  rintro e w' ⟨rfl, rfl⟩
  go_wp2
  go_ret
  exact ⟨rfl, rfl⟩
abbrev fourV (d m s h : Int) : Value := .agg #[.int .i64 d, .int .i64 m, .int .i64 s, .int .i64 h]
theorem partsOf_any (a : Int) (w : World) (h : inT a = true) :
    Calls Try.prog 38 #[.int .i64 a] w fun e w' => e = .returned (fourV (deg a) (mi a) (se a) (hu a)) ∧ Below w.heap.size w w' := by
  have S1 := fun w => deg_any a w h
  have S2 := fun w => mi_any a w h
  have S3 := fun w => se_any a w h
  have S4 := fun w => hu_any a w h
  clear h
  generalize deg a = x1 at *
  generalize mi a = x2 at *
  generalize se a = x3 at *
  generalize hu a = x4 at *
  have i0 : ∀ w : World, (Instr.index 67 (.agg #[.func (.func 46) #[] #[], .func (.func 47) #[] #[], .func (.func 48) #[] #[], .func (.func 49) #[] #[]]) (.int .i64 0)).run Try.prog w = .ok (.func (.func 46) #[] #[]) w := fun _ => by kernel_rfl
  have i1 : ∀ w : World, (Instr.index 67 (.agg #[.func (.func 46) #[] #[], .func (.func 47) #[] #[], .func (.func 48) #[] #[], .func (.func 49) #[] #[]]) (.int .i64 1)).run Try.prog w = .ok (.func (.func 47) #[] #[]) w := fun _ => by kernel_rfl
  have i2 : ∀ w : World, (Instr.index 67 (.agg #[.func (.func 46) #[] #[], .func (.func 47) #[] #[], .func (.func 48) #[] #[], .func (.func 49) #[] #[]]) (.int .i64 2)).run Try.prog w = .ok (.func (.func 48) #[] #[]) w := fun _ => by kernel_rfl
  have i3 : ∀ w : World, (Instr.index 67 (.agg #[.func (.func 46) #[] #[], .func (.func 47) #[] #[], .func (.func 48) #[] #[], .func (.func 49) #[] #[]]) (.int .i64 3)).run Try.prog w = .ok (.func (.func 49) #[] #[]) w := fun _ => by kernel_rfl
  go_enter Try.func38, Try.ntmps38
  go_wp2_with fail
  refine wp_loop_rounds 5 ?_
  rw [rounds_succ]
  go_wp2_with fail
  refine (S1 _).mono ?_
  rintro e w' ⟨rfl, rfl⟩
  go_wp2_with fail
  rw [rounds_succ]
  go_wp2_with fail
  refine (S2 _).mono ?_
  rintro e w' ⟨rfl, rfl⟩
  go_wp2_with fail
  rw [rounds_succ]
  go_wp2_with fail
  refine (S3 _).mono ?_
  rintro e w' ⟨rfl, rfl⟩
  go_wp2_with fail
  rw [rounds_succ]
  go_wp2_with fail
  refine (S4 _).mono ?_
  rintro e w' ⟨rfl, rfl⟩
  go_wp2_with fail
  rw [rounds_succ]
  go_wp2
  refine bodyPost_ret (v := fourV x1 x2 x3 x4) (by simp [results, Try.results38, go_sem]) rfl ⟨rfl, ?_⟩
  exact below1 (below1 (below_new _ _) (below_new _ _)) (below_new _ _)
theorem five_fz {w w1 : World} {l : Bool} {d m s h : Int} {t : TypeId} (B : Below (w.alloc (.cells #[.bool l, .int .i64 d, .int .i64 m, .int .i64 s, .int .i64 h] t)).heap.size (w.alloc (.cells #[.bool l, .int .i64 d, .int .i64 m, .int .i64 s, .int .i64 h] t)) w1) (o : Nat) : w1.frozen? ⟨w.heap.size, o, none⟩ = false := by
  rw [World.frozen?_of_block (w := w.alloc (.cells #[.bool l, .int .i64 d, .int .i64 m, .int .i64 s, .int .i64 h] t)) (B.block w.heap.size (by simp))]
  simp [go_sem]
theorem from0_any (n m : Int) (w : World) :
    Calls Try.prog 28 #[.int .i64 n, .int .i64 m] w fun e w' => e = .returned (.bool (NM.inB n 0 m)) ∧ w' = w := by
  by_cases h1 : 0 ≤ n
  · by_cases h2 : n ≤ m
    · have H : Hide (true = NM.inB n 0 m) := ⟨(decide_eq_true ⟨h1, h2⟩).symm⟩
      go_enter Try.func28, Try.ntmps28
      go_wp2
      go_ret
      exact ⟨NW.ret_bool H.out, rfl⟩
    · have H : Hide (false = NM.inB n 0 m) := ⟨(decide_eq_false (fun h => h2 h.2)).symm⟩
      go_enter Try.func28, Try.ntmps28
      go_wp2
      go_ret
      exact ⟨NW.ret_bool H.out, rfl⟩
  · have H : Hide (false = NM.inB n 0 m) := ⟨(decide_eq_false (fun h => h1 h.1)).symm⟩
    go_enter Try.func28, Try.ntmps28
    go_wp2
    go_ret
    exact ⟨NW.ret_bool H.out, rfl⟩
end AW
end Go.Proofs.Ytfdkpcejjcifgau
