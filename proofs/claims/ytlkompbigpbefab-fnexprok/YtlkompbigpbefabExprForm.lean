/-
  The program asks of an Expr whether it is in form: (impl.Expr).isInForm.
-/
import Derived.Test.YtlkompbigpbefabExprRep
namespace Go.Proofs.Ytlkompbigpbefab
open Go.RowKit Go.Sort
set_option linter.unusedVariables false
set_option maxRecDepth 8000
namespace ER
open EM SK
theorem iTurn_any (a : Int) (w : World) : Calls Try.prog 61 #[.int .i64 a] w fun e w' => e = .returned (.bool (NM.inB a (-129600000) 129600000)) ∧ w' = w := by
  by_cases h1 : -129600000 ≤ a
  · by_cases h2 : a ≤ 129600000
    · rw [show NM.inB a (-129600000) 129600000 = true from decide_eq_true ⟨h1, h2⟩]
      go_enter Try.func61, Try.ntmps61
      go_wp2
      go_ret
      exact ⟨rfl, rfl⟩
    · rw [show NM.inB a (-129600000) 129600000 = false from decide_eq_false (by omega)]
      go_enter Try.func61, Try.ntmps61
      go_wp2
      go_ret
      exact ⟨rfl, rfl⟩
  · rw [show NM.inB a (-129600000) 129600000 = false from decide_eq_false (by omega)]
    go_enter Try.func61, Try.ntmps61
    go_wp2
    go_ret
    exact ⟨rfl, rfl⟩
theorem form_num_n (a b : Int) (p : Option Addr) (n cap : Nat) (hn : ((n : Int) == 0) = false) (w : World) :
    Calls Try.prog 43 #[exV 1 a b (.slice p n cap)] w fun e w' => e = .returned (.bool false) ∧ Below w.heap.size w w' := by
  have E := Ex.new w 1 a b (.slice p n cap) 25
  have B := below_new w (.cells #[.int .i64 1, .int .i64 a, .int .i64 b, .slice p n cap] 25)
  go_enter Try.func43, Try.ntmps43
  have ⟨E0, E1, E2, E3⟩ := E
  go_wp2
  go_ret
  exact ⟨rfl, B⟩
theorem form_num_a0 (a b : Int) (p : Option Addr) (cap : Nat) (h1 : ¬ -1000 ≤ a) (w : World) :
    Calls Try.prog 43 #[exV 1 a b (.slice p 0 cap)] w fun e w' => e = .returned (.bool false) ∧ Below w.heap.size w w' := by
  have E := Ex.new w 1 a b (.slice p 0 cap) 25
  have B := below_new w (.cells #[.int .i64 1, .int .i64 a, .int .i64 b, .slice p 0 cap] 25)
  go_enter Try.func43, Try.ntmps43
  have ⟨E0, E1, E2, E3⟩ := E
  go_wp2
  go_ret
  exact ⟨rfl, B⟩
theorem form_num_a1 (a b : Int) (p : Option Addr) (cap : Nat) (h1 : -1000 ≤ a) (h2 : ¬ a ≤ 1000) (w : World) :
    Calls Try.prog 43 #[exV 1 a b (.slice p 0 cap)] w fun e w' => e = .returned (.bool false) ∧ Below w.heap.size w w' := by
  have E := Ex.new w 1 a b (.slice p 0 cap) 25
  have B := below_new w (.cells #[.int .i64 1, .int .i64 a, .int .i64 b, .slice p 0 cap] 25)
  go_enter Try.func43, Try.ntmps43
  have ⟨E0, E1, E2, E3⟩ := E
  go_wp2
  go_ret
  exact ⟨rfl, B⟩
theorem form_num_b0 (a b : Int) (p : Option Addr) (cap : Nat) (h1 : -1000 ≤ a) (h2 : a ≤ 1000) (h3 : ¬ 1 ≤ b) (w : World) :
    Calls Try.prog 43 #[exV 1 a b (.slice p 0 cap)] w fun e w' => e = .returned (.bool false) ∧ Below w.heap.size w w' := by
  have E := Ex.new w 1 a b (.slice p 0 cap) 25
  have B := below_new w (.cells #[.int .i64 1, .int .i64 a, .int .i64 b, .slice p 0 cap] 25)
  go_enter Try.func43, Try.ntmps43
  have ⟨E0, E1, E2, E3⟩ := E
  go_wp2
  go_ret
  exact ⟨rfl, B⟩
theorem form_num_b1 (a b : Int) (p : Option Addr) (cap : Nat) (h1 : -1000 ≤ a) (h2 : a ≤ 1000) (h3 : 1 ≤ b) (h4 : ¬ b ≤ 1000) (w : World) :
    Calls Try.prog 43 #[exV 1 a b (.slice p 0 cap)] w fun e w' => e = .returned (.bool false) ∧ Below w.heap.size w w' := by
  have E := Ex.new w 1 a b (.slice p 0 cap) 25
  have B := below_new w (.cells #[.int .i64 1, .int .i64 a, .int .i64 b, .slice p 0 cap] 25)
  go_enter Try.func43, Try.ntmps43
  have ⟨E0, E1, E2, E3⟩ := E
  go_wp2
  go_ret
  exact ⟨rfl, B⟩
theorem form_num (a b : Int) (p : Option Addr) (cap : Nat) (h1 : -1000 ≤ a) (h2 : a ≤ 1000) (h3 : 1 ≤ b) (h4 : b ≤ 1000) (w : World) :
    Calls Try.prog 43 #[exV 1 a b (.slice p 0 cap)] w fun e w' => e = .returned (.bool true) ∧ Below w.heap.size w w' := by
  have E := Ex.new w 1 a b (.slice p 0 cap) 25
  have B := below_new w (.cells #[.int .i64 1, .int .i64 a, .int .i64 b, .slice p 0 cap] 25)
  go_enter Try.func43, Try.ntmps43
  have ⟨E0, E1, E2, E3⟩ := E
  go_wp2
  go_ret
  exact ⟨rfl, B⟩
theorem form_sine_n (a b : Int) (p : Option Addr) (n cap : Nat) (hn : ((n : Int) == 0) = false) (w : World) :
    Calls Try.prog 43 #[exV 4 a b (.slice p n cap)] w fun e w' => e = .returned (.bool false) ∧ Below w.heap.size w w' := by
  have E := Ex.new w 4 a b (.slice p n cap) 25
  have B := below_new w (.cells #[.int .i64 4, .int .i64 a, .int .i64 b, .slice p n cap] 25)
  go_enter Try.func43, Try.ntmps43
  have ⟨E0, E1, E2, E3⟩ := E
  go_wp2
  go_ret
  exact ⟨rfl, B⟩
theorem form_sine_a (a b : Int) (p : Option Addr) (cap : Nat) (ht : NM.inB a (-129600000) 129600000 = false) (w : World) :
    Calls Try.prog 43 #[exV 4 a b (.slice p 0 cap)] w fun e w' => e = .returned (.bool false) ∧ Below w.heap.size w w' := by
  have T := fun w => iTurn_any a w
  rw [ht] at T
  clear ht
  have E := Ex.new w 4 a b (.slice p 0 cap) 25
  have B := below_new w (.cells #[.int .i64 4, .int .i64 a, .int .i64 b, .slice p 0 cap] 25)
  go_enter Try.func43, Try.ntmps43
  have ⟨E0, E1, E2, E3⟩ := E
  go_wp2_with fail
  refine (T _).mono ?_
  rintro e w1 ⟨rfl, rfl⟩
  go_wp2
  go_ret
  exact ⟨rfl, B⟩
theorem form_sine_b (a b : Int) (p : Option Addr) (cap : Nat) (ht : NM.inB a (-129600000) 129600000 = true) (hb : (b == 0) = false) (w : World) :
    Calls Try.prog 43 #[exV 4 a b (.slice p 0 cap)] w fun e w' => e = .returned (.bool false) ∧ Below w.heap.size w w' := by
  have T := fun w => iTurn_any a w
  rw [ht] at T
  clear ht
  have E := Ex.new w 4 a b (.slice p 0 cap) 25
  have B := below_new w (.cells #[.int .i64 4, .int .i64 a, .int .i64 b, .slice p 0 cap] 25)
  go_enter Try.func43, Try.ntmps43
  have ⟨E0, E1, E2, E3⟩ := E
  go_wp2_with fail
  refine (T _).mono ?_
  rintro e w1 ⟨rfl, rfl⟩
  go_wp2
  go_ret
  exact ⟨rfl, B⟩
theorem form_sine (a : Int) (p : Option Addr) (cap : Nat) (ht : NM.inB a (-129600000) 129600000 = true) (w : World) :
    Calls Try.prog 43 #[exV 4 a 0 (.slice p 0 cap)] w fun e w' => e = .returned (.bool true) ∧ Below w.heap.size w w' := by
  have T := fun w => iTurn_any a w
  rw [ht] at T
  clear ht
  have E := Ex.new w 4 a 0 (.slice p 0 cap) 25
  have B := below_new w (.cells #[.int .i64 4, .int .i64 a, .int .i64 0, .slice p 0 cap] 25)
  go_enter Try.func43, Try.ntmps43
  have ⟨E0, E1, E2, E3⟩ := E
  go_wp2_with fail
  refine (T _).mono ?_
  rintro e w1 ⟨rfl, rfl⟩
  go_wp2
  go_ret
  exact ⟨rfl, B⟩
theorem form2_n (a b : Int) (p : Option Addr) (n cap : Nat) (hn : ((n : Int) == 1) = false) (w : World) :
    Calls Try.prog 43 #[exV 2 a b (.slice p n cap)] w fun e w' => e = .returned (.bool false) ∧ Below w.heap.size w w' := by
  have E := Ex.new w 2 a b (.slice p n cap) 25
  have B := below_new w (.cells #[.int .i64 2, .int .i64 a, .int .i64 b, .slice p n cap] 25)
  go_enter Try.func43, Try.ntmps43
  have ⟨E0, E1, E2, E3⟩ := E
  go_wp2
  go_ret
  exact ⟨rfl, B⟩
theorem form2_a (a b : Int) (p : Option Addr) (cap : Nat) (ha : (a == 0) = false) (w : World) :
    Calls Try.prog 43 #[exV 2 a b (.slice p 1 cap)] w fun e w' => e = .returned (.bool false) ∧ Below w.heap.size w w' := by
  have E := Ex.new w 2 a b (.slice p 1 cap) 25
  have B := below_new w (.cells #[.int .i64 2, .int .i64 a, .int .i64 b, .slice p 1 cap] 25)
  go_enter Try.func43, Try.ntmps43
  have ⟨E0, E1, E2, E3⟩ := E
  go_wp2
  go_ret
  exact ⟨rfl, B⟩
theorem form2_b (b : Int) (p : Option Addr) (cap : Nat) (hb : (b == 0) = false) (w : World) :
    Calls Try.prog 43 #[exV 2 0 b (.slice p 1 cap)] w fun e w' => e = .returned (.bool false) ∧ Below w.heap.size w w' := by
  have E := Ex.new w 2 0 b (.slice p 1 cap) 25
  have B := below_new w (.cells #[.int .i64 2, .int .i64 0, .int .i64 b, .slice p 1 cap] 25)
  go_enter Try.func43, Try.ntmps43
  have ⟨E0, E1, E2, E3⟩ := E
  go_wp2
  go_ret
  exact ⟨rfl, B⟩
theorem form2 (p : Option Addr) (cap : Nat) (w : World) :
    Calls Try.prog 43 #[exV 2 0 0 (.slice p 1 cap)] w fun e w' => e = .returned (.bool true) ∧ Below w.heap.size w w' := by
  have E := Ex.new w 2 0 0 (.slice p 1 cap) 25
  have B := below_new w (.cells #[.int .i64 2, .int .i64 0, .int .i64 0, .slice p 1 cap] 25)
  go_enter Try.func43, Try.ntmps43
  have ⟨E0, E1, E2, E3⟩ := E
  go_wp2
  go_ret
  exact ⟨rfl, B⟩
theorem form3_n (a b : Int) (p : Option Addr) (n cap : Nat) (hn : ((n : Int) == 1) = false) (w : World) :
    Calls Try.prog 43 #[exV 3 a b (.slice p n cap)] w fun e w' => e = .returned (.bool false) ∧ Below w.heap.size w w' := by
  have E := Ex.new w 3 a b (.slice p n cap) 25
  have B := below_new w (.cells #[.int .i64 3, .int .i64 a, .int .i64 b, .slice p n cap] 25)
  go_enter Try.func43, Try.ntmps43
  have ⟨E0, E1, E2, E3⟩ := E
  go_wp2
  go_ret
  exact ⟨rfl, B⟩
theorem form3_a (a b : Int) (p : Option Addr) (cap : Nat) (ha : (a == 0) = false) (w : World) :
    Calls Try.prog 43 #[exV 3 a b (.slice p 1 cap)] w fun e w' => e = .returned (.bool false) ∧ Below w.heap.size w w' := by
  have E := Ex.new w 3 a b (.slice p 1 cap) 25
  have B := below_new w (.cells #[.int .i64 3, .int .i64 a, .int .i64 b, .slice p 1 cap] 25)
  go_enter Try.func43, Try.ntmps43
  have ⟨E0, E1, E2, E3⟩ := E
  go_wp2
  go_ret
  exact ⟨rfl, B⟩
theorem form3_b (b : Int) (p : Option Addr) (cap : Nat) (hb : (b == 0) = false) (w : World) :
    Calls Try.prog 43 #[exV 3 0 b (.slice p 1 cap)] w fun e w' => e = .returned (.bool false) ∧ Below w.heap.size w w' := by
  have E := Ex.new w 3 0 b (.slice p 1 cap) 25
  have B := below_new w (.cells #[.int .i64 3, .int .i64 0, .int .i64 b, .slice p 1 cap] 25)
  go_enter Try.func43, Try.ntmps43
  have ⟨E0, E1, E2, E3⟩ := E
  go_wp2
  go_ret
  exact ⟨rfl, B⟩
theorem form3 (p : Option Addr) (cap : Nat) (w : World) :
    Calls Try.prog 43 #[exV 3 0 0 (.slice p 1 cap)] w fun e w' => e = .returned (.bool true) ∧ Below w.heap.size w w' := by
  have E := Ex.new w 3 0 0 (.slice p 1 cap) 25
  have B := below_new w (.cells #[.int .i64 3, .int .i64 0, .int .i64 0, .slice p 1 cap] 25)
  go_enter Try.func43, Try.ntmps43
  have ⟨E0, E1, E2, E3⟩ := E
  go_wp2
  go_ret
  exact ⟨rfl, B⟩
theorem form5_n (a b : Int) (p : Option Addr) (n cap : Nat) (hn : ((n : Int) == 2) = false) (w : World) :
    Calls Try.prog 43 #[exV 5 a b (.slice p n cap)] w fun e w' => e = .returned (.bool false) ∧ Below w.heap.size w w' := by
  have E := Ex.new w 5 a b (.slice p n cap) 25
  have B := below_new w (.cells #[.int .i64 5, .int .i64 a, .int .i64 b, .slice p n cap] 25)
  go_enter Try.func43, Try.ntmps43
  have ⟨E0, E1, E2, E3⟩ := E
  go_wp2
  go_ret
  exact ⟨rfl, B⟩
theorem form5_a (a b : Int) (p : Option Addr) (cap : Nat) (ha : (a == 0) = false) (w : World) :
    Calls Try.prog 43 #[exV 5 a b (.slice p 2 cap)] w fun e w' => e = .returned (.bool false) ∧ Below w.heap.size w w' := by
  have E := Ex.new w 5 a b (.slice p 2 cap) 25
  have B := below_new w (.cells #[.int .i64 5, .int .i64 a, .int .i64 b, .slice p 2 cap] 25)
  go_enter Try.func43, Try.ntmps43
  have ⟨E0, E1, E2, E3⟩ := E
  go_wp2
  go_ret
  exact ⟨rfl, B⟩
theorem form5_b (b : Int) (p : Option Addr) (cap : Nat) (hb : (b == 0) = false) (w : World) :
    Calls Try.prog 43 #[exV 5 0 b (.slice p 2 cap)] w fun e w' => e = .returned (.bool false) ∧ Below w.heap.size w w' := by
  have E := Ex.new w 5 0 b (.slice p 2 cap) 25
  have B := below_new w (.cells #[.int .i64 5, .int .i64 0, .int .i64 b, .slice p 2 cap] 25)
  go_enter Try.func43, Try.ntmps43
  have ⟨E0, E1, E2, E3⟩ := E
  go_wp2
  go_ret
  exact ⟨rfl, B⟩
theorem form5 (p : Option Addr) (cap : Nat) (w : World) :
    Calls Try.prog 43 #[exV 5 0 0 (.slice p 2 cap)] w fun e w' => e = .returned (.bool true) ∧ Below w.heap.size w w' := by
  have E := Ex.new w 5 0 0 (.slice p 2 cap) 25
  have B := below_new w (.cells #[.int .i64 5, .int .i64 0, .int .i64 0, .slice p 2 cap] 25)
  go_enter Try.func43, Try.ntmps43
  have ⟨E0, E1, E2, E3⟩ := E
  go_wp2
  go_ret
  exact ⟨rfl, B⟩
theorem form6_n (a b : Int) (p : Option Addr) (n cap : Nat) (hn : ((n : Int) == 2) = false) (w : World) :
    Calls Try.prog 43 #[exV 6 a b (.slice p n cap)] w fun e w' => e = .returned (.bool false) ∧ Below w.heap.size w w' := by
  have E := Ex.new w 6 a b (.slice p n cap) 25
  have B := below_new w (.cells #[.int .i64 6, .int .i64 a, .int .i64 b, .slice p n cap] 25)
  go_enter Try.func43, Try.ntmps43
  have ⟨E0, E1, E2, E3⟩ := E
  go_wp2
  go_ret
  exact ⟨rfl, B⟩
theorem form6_a (a b : Int) (p : Option Addr) (cap : Nat) (ha : (a == 0) = false) (w : World) :
    Calls Try.prog 43 #[exV 6 a b (.slice p 2 cap)] w fun e w' => e = .returned (.bool false) ∧ Below w.heap.size w w' := by
  have E := Ex.new w 6 a b (.slice p 2 cap) 25
  have B := below_new w (.cells #[.int .i64 6, .int .i64 a, .int .i64 b, .slice p 2 cap] 25)
  go_enter Try.func43, Try.ntmps43
  have ⟨E0, E1, E2, E3⟩ := E
  go_wp2
  go_ret
  exact ⟨rfl, B⟩
theorem form6_b (b : Int) (p : Option Addr) (cap : Nat) (hb : (b == 0) = false) (w : World) :
    Calls Try.prog 43 #[exV 6 0 b (.slice p 2 cap)] w fun e w' => e = .returned (.bool false) ∧ Below w.heap.size w w' := by
  have E := Ex.new w 6 0 b (.slice p 2 cap) 25
  have B := below_new w (.cells #[.int .i64 6, .int .i64 0, .int .i64 b, .slice p 2 cap] 25)
  go_enter Try.func43, Try.ntmps43
  have ⟨E0, E1, E2, E3⟩ := E
  go_wp2
  go_ret
  exact ⟨rfl, B⟩
theorem form6 (p : Option Addr) (cap : Nat) (w : World) :
    Calls Try.prog 43 #[exV 6 0 0 (.slice p 2 cap)] w fun e w' => e = .returned (.bool true) ∧ Below w.heap.size w w' := by
  have E := Ex.new w 6 0 0 (.slice p 2 cap) 25
  have B := below_new w (.cells #[.int .i64 6, .int .i64 0, .int .i64 0, .slice p 2 cap] 25)
  go_enter Try.func43, Try.ntmps43
  have ⟨E0, E1, E2, E3⟩ := E
  go_wp2
  go_ret
  exact ⟨rfl, B⟩
theorem form7_n (a b : Int) (p : Option Addr) (n cap : Nat) (hn : ((n : Int) == 2) = false) (w : World) :
    Calls Try.prog 43 #[exV 7 a b (.slice p n cap)] w fun e w' => e = .returned (.bool false) ∧ Below w.heap.size w w' := by
  have E := Ex.new w 7 a b (.slice p n cap) 25
  have B := below_new w (.cells #[.int .i64 7, .int .i64 a, .int .i64 b, .slice p n cap] 25)
  go_enter Try.func43, Try.ntmps43
  have ⟨E0, E1, E2, E3⟩ := E
  go_wp2
  go_ret
  exact ⟨rfl, B⟩
theorem form7_a (a b : Int) (p : Option Addr) (cap : Nat) (ha : (a == 0) = false) (w : World) :
    Calls Try.prog 43 #[exV 7 a b (.slice p 2 cap)] w fun e w' => e = .returned (.bool false) ∧ Below w.heap.size w w' := by
  have E := Ex.new w 7 a b (.slice p 2 cap) 25
  have B := below_new w (.cells #[.int .i64 7, .int .i64 a, .int .i64 b, .slice p 2 cap] 25)
  go_enter Try.func43, Try.ntmps43
  have ⟨E0, E1, E2, E3⟩ := E
  go_wp2
  go_ret
  exact ⟨rfl, B⟩
theorem form7_b (b : Int) (p : Option Addr) (cap : Nat) (hb : (b == 0) = false) (w : World) :
    Calls Try.prog 43 #[exV 7 0 b (.slice p 2 cap)] w fun e w' => e = .returned (.bool false) ∧ Below w.heap.size w w' := by
  have E := Ex.new w 7 0 b (.slice p 2 cap) 25
  have B := below_new w (.cells #[.int .i64 7, .int .i64 0, .int .i64 b, .slice p 2 cap] 25)
  go_enter Try.func43, Try.ntmps43
  have ⟨E0, E1, E2, E3⟩ := E
  go_wp2
  go_ret
  exact ⟨rfl, B⟩
theorem form7 (p : Option Addr) (cap : Nat) (w : World) :
    Calls Try.prog 43 #[exV 7 0 0 (.slice p 2 cap)] w fun e w' => e = .returned (.bool true) ∧ Below w.heap.size w w' := by
  have E := Ex.new w 7 0 0 (.slice p 2 cap) 25
  have B := below_new w (.cells #[.int .i64 7, .int .i64 0, .int .i64 0, .slice p 2 cap] 25)
  go_enter Try.func43, Try.ntmps43
  have ⟨E0, E1, E2, E3⟩ := E
  go_wp2
  go_ret
  exact ⟨rfl, B⟩
theorem form8_n (a b : Int) (p : Option Addr) (n cap : Nat) (hn : ((n : Int) == 2) = false) (w : World) :
    Calls Try.prog 43 #[exV 8 a b (.slice p n cap)] w fun e w' => e = .returned (.bool false) ∧ Below w.heap.size w w' := by
  have E := Ex.new w 8 a b (.slice p n cap) 25
  have B := below_new w (.cells #[.int .i64 8, .int .i64 a, .int .i64 b, .slice p n cap] 25)
  go_enter Try.func43, Try.ntmps43
  have ⟨E0, E1, E2, E3⟩ := E
  go_wp2
  go_ret
  exact ⟨rfl, B⟩
theorem form8_a (a b : Int) (p : Option Addr) (cap : Nat) (ha : (a == 0) = false) (w : World) :
    Calls Try.prog 43 #[exV 8 a b (.slice p 2 cap)] w fun e w' => e = .returned (.bool false) ∧ Below w.heap.size w w' := by
  have E := Ex.new w 8 a b (.slice p 2 cap) 25
  have B := below_new w (.cells #[.int .i64 8, .int .i64 a, .int .i64 b, .slice p 2 cap] 25)
  go_enter Try.func43, Try.ntmps43
  have ⟨E0, E1, E2, E3⟩ := E
  go_wp2
  go_ret
  exact ⟨rfl, B⟩
theorem form8_b (b : Int) (p : Option Addr) (cap : Nat) (hb : (b == 0) = false) (w : World) :
    Calls Try.prog 43 #[exV 8 0 b (.slice p 2 cap)] w fun e w' => e = .returned (.bool false) ∧ Below w.heap.size w w' := by
  have E := Ex.new w 8 0 b (.slice p 2 cap) 25
  have B := below_new w (.cells #[.int .i64 8, .int .i64 0, .int .i64 b, .slice p 2 cap] 25)
  go_enter Try.func43, Try.ntmps43
  have ⟨E0, E1, E2, E3⟩ := E
  go_wp2
  go_ret
  exact ⟨rfl, B⟩
theorem form8 (p : Option Addr) (cap : Nat) (w : World) :
    Calls Try.prog 43 #[exV 8 0 0 (.slice p 2 cap)] w fun e w' => e = .returned (.bool true) ∧ Below w.heap.size w w' := by
  have E := Ex.new w 8 0 0 (.slice p 2 cap) 25
  have B := below_new w (.cells #[.int .i64 8, .int .i64 0, .int .i64 0, .slice p 2 cap] 25)
  go_enter Try.func43, Try.ntmps43
  have ⟨E0, E1, E2, E3⟩ := E
  go_wp2
  go_ret
  exact ⟨rfl, B⟩
theorem form_none (k a b : Int) (p : Option Addr) (n cap : Nat) (h1 : (k == 1) = false) (h2 : (k == 2) = false) (h3 : (k == 3) = false) (h4 : (k == 4) = false) (h5 : (k == 5) = false) (h6 : (k == 6) = false) (h7 : (k == 7) = false) (h8 : (k == 8) = false) (w : World) :
    Calls Try.prog 43 #[exV k a b (.slice p n cap)] w fun e w' => e = .returned (.bool false) ∧ Below w.heap.size w w' := by
  have E := Ex.new w k a b (.slice p n cap) 25
  have B := below_new w (.cells #[.int .i64 k, .int .i64 a, .int .i64 b, .slice p n cap] 25)
  go_enter Try.func43, Try.ntmps43
  have ⟨E0, E1, E2, E3⟩ := E
  go_wp2
  go_ret
  exact ⟨rfl, B⟩
theorem form_two (k a b : Int) (n m : Nat) (hk : kidsN k = m) (h1 : ¬ k = 1) (h4 : ¬ k = 4) (hm : 0 < m) : formB k a b n = (decide (n = m) && (decide (a = 0) && decide (b = 0))) := by
  have e1 : decide (k = 1 ∧ (-1000 ≤ a ∧ a ≤ 1000) ∧ 1 ≤ b ∧ b ≤ 1000) = false := decide_eq_false fun g => h1 g.1
  have e2 : decide (k = 4 ∧ (-129600000 ≤ a ∧ a ≤ 129600000) ∧ b = 0) = false := decide_eq_false fun g => h4 g.1
  unfold formB
  rw [hk, e1, e2, Bool.false_or, Bool.false_or]
  have e3 : decide ((n : Int) = (m : Int)) = decide (n = m) := by congr 1; exact propext ⟨fun h => by omega, fun h => by omega⟩
  have e4 : decide (0 < (m : Int) ∧ a = 0 ∧ b = 0) = (decide (a = 0) && decide (b = 0)) := by
    have : decide (0 < (m : Int)) = true := decide_eq_true (by omega)
    rw [Bool.decide_and, this, Bool.true_and, Bool.decide_and]
  rw [e3, e4]
theorem iForm_any (k a b : Int) (p : Option Addr) (n cap : Nat) (w : World) :
    Calls Try.prog 43 #[exV k a b (.slice p n cap)] w fun e w' => e = .returned (.bool (formB k a b n)) ∧ Below w.heap.size w w' := by
  by_cases k1 : k = 1
  · subst k1
    have e : formB 1 a b n = (decide (n = 0) && (NM.inB a (-1000) 1000 && NM.inB b 1 1000)) := by
      unfold formB NM.inB
      have z : kidsN 1 = 0 := rfl
      have e2 : decide ((1 : Int) = 4 ∧ (-129600000 ≤ a ∧ a ≤ 129600000) ∧ b = 0) = false := decide_eq_false (by omega)
      have e3 : decide ((0 : Int) < 0 ∧ a = 0 ∧ b = 0) = false := decide_eq_false (by omega)
      rw [z, e2, e3, Bool.or_false, Bool.or_false]
      apply Bool.eq_iff_iff.2
      simp only [Bool.and_eq_true, decide_eq_true_eq, eq_self, true_and]
      exact ⟨fun ⟨h1, h2⟩ => ⟨by omega, h2⟩, fun ⟨h1, h2⟩ => ⟨by omega, h2⟩⟩
    rw [e]
    clear e
    by_cases hn : n = 0
    · subst hn
      rw [decide_eq_true rfl, Bool.true_and]
      by_cases h1 : -1000 ≤ a
      · by_cases h2 : a ≤ 1000
        · rw [show NM.inB a (-1000) 1000 = true from decide_eq_true ⟨h1, h2⟩, Bool.true_and]
          by_cases h3 : 1 ≤ b
          · by_cases h4 : b ≤ 1000
            · rw [show NM.inB b 1 1000 = true from decide_eq_true ⟨h3, h4⟩]; exact form_num a b p cap h1 h2 h3 h4 w
            · rw [show NM.inB b 1 1000 = false from decide_eq_false (by omega)]; exact form_num_b1 a b p cap h1 h2 h3 h4 w
          · rw [show NM.inB b 1 1000 = false from decide_eq_false (by omega)]; exact form_num_b0 a b p cap h1 h2 h3 w
        · rw [show NM.inB a (-1000) 1000 = false from decide_eq_false (by omega), Bool.false_and]; exact form_num_a1 a b p cap h1 h2 w
      · rw [show NM.inB a (-1000) 1000 = false from decide_eq_false (by omega), Bool.false_and]; exact form_num_a0 a b p cap h1 w
    · rw [decide_eq_false hn, Bool.false_and]
      exact form_num_n a b p n cap (beq_false_of_ne (by omega)) w
  by_cases k4 : k = 4
  · subst k4
    have e : formB 4 a b n = (decide (n = 0) && (NM.inB a (-129600000) 129600000 && decide (b = 0))) := by
      unfold formB NM.inB
      have z : kidsN 4 = 0 := rfl
      have e2 : decide ((4 : Int) = 1 ∧ (-1000 ≤ a ∧ a ≤ 1000) ∧ 1 ≤ b ∧ b ≤ 1000) = false := decide_eq_false (by omega)
      have e3 : decide ((0 : Int) < 0 ∧ a = 0 ∧ b = 0) = false := decide_eq_false (by omega)
      rw [z, e2, e3, Bool.or_false, Bool.false_or]
      apply Bool.eq_iff_iff.2
      simp only [Bool.and_eq_true, decide_eq_true_eq, eq_self, true_and]
      exact ⟨fun ⟨h1, h2⟩ => ⟨by omega, h2⟩, fun ⟨h1, h2⟩ => ⟨by omega, h2⟩⟩
    rw [e]
    clear e
    by_cases hn : n = 0
    · subst hn
      rw [decide_eq_true rfl, Bool.true_and]
      cases ht : NM.inB a (-129600000) 129600000
      · rw [Bool.false_and]; exact form_sine_a a b p cap ht w
      · rw [Bool.true_and]
        by_cases hb : b = 0
        · subst hb; exact form_sine a p cap ht w
        · rw [decide_eq_false hb]; exact form_sine_b a b p cap ht (beq_false_of_ne hb) w
    · rw [decide_eq_false hn, Bool.false_and]
      exact form_sine_n a b p n cap (beq_false_of_ne (by omega)) w
  by_cases k2 : k = 2
  · subst k2
    rw [form_two 2 a b n 1 rfl (by omega) (by omega) (by omega)]
    by_cases hn : n = 1
    · subst hn
      rw [decide_eq_true rfl, Bool.true_and]
      by_cases ha : a = 0
      · subst ha
        rw [decide_eq_true rfl, Bool.true_and]
        by_cases hb : b = 0
        · subst hb; exact form2 p cap w
        · rw [decide_eq_false hb]; exact form2_b b p cap (beq_false_of_ne hb) w
      · rw [decide_eq_false ha, Bool.false_and]; exact form2_a a b p cap (beq_false_of_ne ha) w
    · rw [decide_eq_false hn, Bool.false_and]
      exact form2_n a b p n cap (beq_false_of_ne (by omega)) w
  by_cases k3 : k = 3
  · subst k3
    rw [form_two 3 a b n 1 rfl (by omega) (by omega) (by omega)]
    by_cases hn : n = 1
    · subst hn
      rw [decide_eq_true rfl, Bool.true_and]
      by_cases ha : a = 0
      · subst ha
        rw [decide_eq_true rfl, Bool.true_and]
        by_cases hb : b = 0
        · subst hb; exact form3 p cap w
        · rw [decide_eq_false hb]; exact form3_b b p cap (beq_false_of_ne hb) w
      · rw [decide_eq_false ha, Bool.false_and]; exact form3_a a b p cap (beq_false_of_ne ha) w
    · rw [decide_eq_false hn, Bool.false_and]
      exact form3_n a b p n cap (beq_false_of_ne (by omega)) w
  by_cases k5 : k = 5
  · subst k5
    rw [form_two 5 a b n 2 rfl (by omega) (by omega) (by omega)]
    by_cases hn : n = 2
    · subst hn
      rw [decide_eq_true rfl, Bool.true_and]
      by_cases ha : a = 0
      · subst ha
        rw [decide_eq_true rfl, Bool.true_and]
        by_cases hb : b = 0
        · subst hb; exact form5 p cap w
        · rw [decide_eq_false hb]; exact form5_b b p cap (beq_false_of_ne hb) w
      · rw [decide_eq_false ha, Bool.false_and]; exact form5_a a b p cap (beq_false_of_ne ha) w
    · rw [decide_eq_false hn, Bool.false_and]
      exact form5_n a b p n cap (beq_false_of_ne (by omega)) w
  by_cases k6 : k = 6
  · subst k6
    rw [form_two 6 a b n 2 rfl (by omega) (by omega) (by omega)]
    by_cases hn : n = 2
    · subst hn
      rw [decide_eq_true rfl, Bool.true_and]
      by_cases ha : a = 0
      · subst ha
        rw [decide_eq_true rfl, Bool.true_and]
        by_cases hb : b = 0
        · subst hb; exact form6 p cap w
        · rw [decide_eq_false hb]; exact form6_b b p cap (beq_false_of_ne hb) w
      · rw [decide_eq_false ha, Bool.false_and]; exact form6_a a b p cap (beq_false_of_ne ha) w
    · rw [decide_eq_false hn, Bool.false_and]
      exact form6_n a b p n cap (beq_false_of_ne (by omega)) w
  by_cases k7 : k = 7
  · subst k7
    rw [form_two 7 a b n 2 rfl (by omega) (by omega) (by omega)]
    by_cases hn : n = 2
    · subst hn
      rw [decide_eq_true rfl, Bool.true_and]
      by_cases ha : a = 0
      · subst ha
        rw [decide_eq_true rfl, Bool.true_and]
        by_cases hb : b = 0
        · subst hb; exact form7 p cap w
        · rw [decide_eq_false hb]; exact form7_b b p cap (beq_false_of_ne hb) w
      · rw [decide_eq_false ha, Bool.false_and]; exact form7_a a b p cap (beq_false_of_ne ha) w
    · rw [decide_eq_false hn, Bool.false_and]
      exact form7_n a b p n cap (beq_false_of_ne (by omega)) w
  by_cases k8 : k = 8
  · subst k8
    rw [form_two 8 a b n 2 rfl (by omega) (by omega) (by omega)]
    by_cases hn : n = 2
    · subst hn
      rw [decide_eq_true rfl, Bool.true_and]
      by_cases ha : a = 0
      · subst ha
        rw [decide_eq_true rfl, Bool.true_and]
        by_cases hb : b = 0
        · subst hb; exact form8 p cap w
        · rw [decide_eq_false hb]; exact form8_b b p cap (beq_false_of_ne hb) w
      · rw [decide_eq_false ha, Bool.false_and]; exact form8_a a b p cap (beq_false_of_ne ha) w
    · rw [decide_eq_false hn, Bool.false_and]
      exact form8_n a b p n cap (beq_false_of_ne (by omega)) w
  have e : formB k a b n = false := by
    unfold formB
    have z : kidsN k = -1 := kidsN_no (by omega)
    rw [z, decide_eq_false (by omega : ¬ (n : Int) = -1), Bool.false_and]
  rw [e]
  exact form_none k a b p n cap (beq_false_of_ne k1) (beq_false_of_ne k2) (beq_false_of_ne k3) (beq_false_of_ne k4) (beq_false_of_ne k5) (beq_false_of_ne k6) (beq_false_of_ne k7) (beq_false_of_ne k8) w
end ER
end Go.Proofs.Ytlkompbigpbefab
