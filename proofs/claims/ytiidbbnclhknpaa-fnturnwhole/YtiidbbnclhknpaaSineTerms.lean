/-
  The terms of a row, by the program: the closures that round, and what they make of an end.
-/
import Derived.Test.YtiidbbnclhknpaaSineKit
import Derived.Test.YtiidbbnclhknpaaSineBook
namespace Go.Proofs.Ytiidbbnclhknpaa
open Go.RowKit Go.Sort
set_option linter.unusedVariables false
namespace SK
theorem endBehindD_any (x : Int) (w : World) (h0 : 0 ≤ x) (h1 : x ≤ 1000000000) :
    Calls Try.prog 63 #[.int .i64 x, .func (.func 42) #[] #[]] w fun e w' => e = .returned (.func (.func 64) #[] #[.pointer (some ⟨w.heap.size, 0, none⟩), .pointer (some ⟨w.heap.size + 1, 0, none⟩)]) ∧
      w' = (w.alloc (.cells #[.func (.func 42) #[] #[]] 70)).alloc (.cells #[.int .i64 (SI.tD x x)] 3) := by
  obtain ⟨b0, b1, _⟩ := SI.tt_bd h0 h1 h0 h1
  go_enter Try.func63, Try.ntmps63
  go_wp2_with fail
  refine (NW.roundDown_any _ _ _ (by omega) (by omega) (by omega) (by omega)).mono ?_
  rintro e w' ⟨rfl, rfl⟩
  go_wp2
  go_ret
  exact ⟨rfl, rfl⟩
theorem endBehindU_any (x : Int) (w : World) (h0 : 0 ≤ x) (h1 : x ≤ 1000000000) :
    Calls Try.prog 63 #[.int .i64 x, .func (.func 54) #[] #[]] w fun e w' => e = .returned (.func (.func 64) #[] #[.pointer (some ⟨w.heap.size, 0, none⟩), .pointer (some ⟨w.heap.size + 1, 0, none⟩)]) ∧
      w' = (w.alloc (.cells #[.func (.func 54) #[] #[]] 70)).alloc (.cells #[.int .i64 (SI.tU x x)] 3) := by
  obtain ⟨b0, b1, _⟩ := SI.tt_bd h0 h1 h0 h1
  go_enter Try.func63, Try.ntmps63
  go_wp2_with fail
  refine (NW.roundUp_any _ _ _ (by omega) (by omega) (by omega) (by omega)).mono ?_
  rintro e w' ⟨rfl, rfl⟩
  go_wp2
  go_ret
  exact ⟨rfl, rfl⟩
theorem behindD_any (d n q : Int) (b c : Nat) (w : World) (d0 : 0 ≤ d) (d1 : d ≤ 1000000000) (q0 : 0 ≤ q) (q1 : q ≤ 1000000000) (n0 : 1 ≤ n) (n1 : n < 40)
    (hb : w.cell? ⟨b, 0, none⟩ = some (.func (.func 42) #[] #[])) (hc : w.cell? ⟨c, 0, none⟩ = some (.int .i64 q)) :
    Calls Try.prog 64 #[.int .i64 d, .int .i64 n, .pointer (some ⟨b, 0, none⟩), .pointer (some ⟨c, 0, none⟩)] w fun e w' => e = .returned (.int .i64 (NM.down (SI.tD d q) (n * (n + 1)))) ∧ Below w.heap.size w w' := by
  obtain ⟨b0, b1, r0, r1, _⟩ := SI.tt_bd d0 d1 q0 q1
  obtain ⟨m0, m1⟩ := SI.mm_bd n0 n1
  have u1 : IntKind.i64.wrap (d * q) = d * q := wrap_id (by omega) (by omega)
  have u2 : IntKind.i64.wrap (n + 1) = n + 1 := wrap_id (by omega) (by omega)
  have u3 : IntKind.i64.wrap (n * (n + 1)) = n * (n + 1) := wrap_id (by omega) (by omega)
  have k0 := cell_regrown hb
  have k1 := cell_regrown hc
  have c1 : ∀ e os, Calls Try.prog 42 #[.int .i64 (d * q), .int .i64 1000000000] (grow (redrawn w e) os) fun e w'' => e = .returned (.int .i64 (SI.tD d q)) ∧ ∃ p : Regrown, w'' = grow (redrawn w p.d) p.os := fun e os => Calls.regrown_of ((NW.roundDown_any _ _ _ (by omega) (by omega) (by omega) (by omega)).mono fun _ _ ⟨h1, h2⟩ => ⟨h1, h2 ▸ Below.refl _ _⟩)
  have c2 : ∀ e os, Calls Try.prog 42 #[.int .i64 (SI.tD d q), .int .i64 (n * (n + 1))] (grow (redrawn w e) os) fun e w'' => e = .returned (.int .i64 (NM.down (SI.tD d q) (n * (n + 1)))) ∧ ∃ p : Regrown, w'' = grow (redrawn w p.d) p.os := fun e os => Calls.regrown_of ((NW.roundDown_any _ _ _ (by omega) (by omega) (by omega) (by omega)).mono fun _ _ ⟨h1, h2⟩ => ⟨h1, h2 ▸ Below.refl _ _⟩)
  go_enter Try.func64, Try.ntmps64
  go_wp2_with fail
  refine wp_region_quiet_below (by kernel_rfl) (by kernel_rfl) ?_
  repeat (quiet_step (fail))
  quiet_step (exact c1 _ _)
  repeat (quiet_step (fail))
  quiet_step (exact c2 _ _)
  repeat (quiet_step (fail))
  refine wpQuiet_nil ?_
  rintro _ ⟨p, rfl⟩
  go_wp2
  go_ret
  exact ⟨rfl, below_regrown _ _ _⟩
theorem behindU_any (d n q : Int) (b c : Nat) (w : World) (d0 : 0 ≤ d) (d1 : d ≤ 1000000000) (q0 : 0 ≤ q) (q1 : q ≤ 1000000000) (n0 : 1 ≤ n) (n1 : n < 40)
    (hb : w.cell? ⟨b, 0, none⟩ = some (.func (.func 54) #[] #[])) (hc : w.cell? ⟨c, 0, none⟩ = some (.int .i64 q)) :
    Calls Try.prog 64 #[.int .i64 d, .int .i64 n, .pointer (some ⟨b, 0, none⟩), .pointer (some ⟨c, 0, none⟩)] w fun e w' => e = .returned (.int .i64 (NM.up (SI.tU d q) (n * (n + 1)))) ∧ Below w.heap.size w w' := by
  obtain ⟨b0, b1, _, _, r0, r1⟩ := SI.tt_bd d0 d1 q0 q1
  obtain ⟨m0, m1⟩ := SI.mm_bd n0 n1
  have u1 : IntKind.i64.wrap (d * q) = d * q := wrap_id (by omega) (by omega)
  have u2 : IntKind.i64.wrap (n + 1) = n + 1 := wrap_id (by omega) (by omega)
  have u3 : IntKind.i64.wrap (n * (n + 1)) = n * (n + 1) := wrap_id (by omega) (by omega)
  have k0 := cell_regrown hb
  have k1 := cell_regrown hc
  have c1 : ∀ e os, Calls Try.prog 54 #[.int .i64 (d * q), .int .i64 1000000000] (grow (redrawn w e) os) fun e w'' => e = .returned (.int .i64 (SI.tU d q)) ∧ ∃ p : Regrown, w'' = grow (redrawn w p.d) p.os := fun e os => Calls.regrown_of ((NW.roundUp_any _ _ _ (by omega) (by omega) (by omega) (by omega)).mono fun _ _ ⟨h1, h2⟩ => ⟨h1, h2 ▸ Below.refl _ _⟩)
  have c2 : ∀ e os, Calls Try.prog 54 #[.int .i64 (SI.tU d q), .int .i64 (n * (n + 1))] (grow (redrawn w e) os) fun e w'' => e = .returned (.int .i64 (NM.up (SI.tU d q) (n * (n + 1)))) ∧ ∃ p : Regrown, w'' = grow (redrawn w p.d) p.os := fun e os => Calls.regrown_of ((NW.roundUp_any _ _ _ (by omega) (by omega) (by omega) (by omega)).mono fun _ _ ⟨h1, h2⟩ => ⟨h1, h2 ▸ Below.refl _ _⟩)
  go_enter Try.func64, Try.ntmps64
  go_wp2_with fail
  refine wp_region_quiet_below (by kernel_rfl) (by kernel_rfl) ?_
  repeat (quiet_step (fail))
  quiet_step (exact c1 _ _)
  repeat (quiet_step (fail))
  quiet_step (exact c2 _ _)
  repeat (quiet_step (fail))
  refine wpQuiet_nil ?_
  rintro _ ⟨p, rfl⟩
  go_wp2
  go_ret
  exact ⟨rfl, below_regrown _ _ _⟩
end SK
end Go.Proofs.Ytiidbbnclhknpaa
