/-
  What the draws of the specification return: numbers, whatever the code.
-/
import Derived.Test.YtlkompbigpbefabRows
import Derived.Test.YtlkompbigpbefabDrawKit
import Derived.WalkKit
import Derived.Below
import Derived.Deep.QuietTactic
import Derived.BigQuiet
namespace Go.Proofs.Ytlkompbigpbefab
open Go.RowKit
set_option linter.unusedVariables false

namespace DW
open DK
theorem hide {p : Prop} (h : p) : Hid p := h
theorem unhide {p : Prop} (h : Hid p) : p := h.out

theorem pick_1 (w : World) (k p : Nat) (n : Int) (a : Option Addr) (len cap : Nat) (hp : p ≤ 1000000000)
    (hc0 : w.cell? ⟨k, 0, none⟩ = some (.slice a len cap)) (hc1 : w.cell? ⟨k, 1, none⟩ = some (.int .i64 p)) (hf : w.frozen? ⟨k, 1, none⟩ = false) (hn : n < 1) :
    Calls Try.prog 18 #[.pointer (some ⟨k, 0, none⟩), .int .i64 n] w fun e w' => e = .returned (.int .i64 0) ∧ w' = w.setCell ⟨k, 1, none⟩ (.int .i64 ((p : Int) + 1)) := by
  go_enter Try.func18, Try.ntmps18
  go_wp2
  go_ret
  exact ⟨rfl, rfl⟩

theorem pick_2 (w : World) (k p : Nat) (n : Int) (a : Option Addr) (cap : Nat) (hp : p ≤ 1000000000)
    (hc0 : w.cell? ⟨k, 0, none⟩ = some (.slice a 0 cap)) (hc1 : w.cell? ⟨k, 1, none⟩ = some (.int .i64 p)) (hf : w.frozen? ⟨k, 1, none⟩ = false) (hn : 1 ≤ n) :
    Calls Try.prog 18 #[.pointer (some ⟨k, 0, none⟩), .int .i64 n] w fun e w' => e = .returned (.int .i64 0) ∧ w' = w.setCell ⟨k, 1, none⟩ (.int .i64 ((p : Int) + 1)) := by
  go_enter Try.func18, Try.ntmps18
  go_wp2
  go_ret
  exact ⟨rfl, rfl⟩

theorem pick_3 (w : World) (k p : Nat) (n : Int) (b off len cap : Nat) (z : Int) (hp : p ≤ 1000000000)
    (hc0 : w.cell? ⟨k, 0, none⟩ = some (.slice (some ⟨b, off, none⟩) len cap)) (hc1 : w.cell? ⟨k, 1, none⟩ = some (.int .i64 p)) (hf : w.frozen? ⟨k, 1, none⟩ = false) (hn : 1 ≤ n)
    (hl : p < len) (hl2 : len ≤ 2000) (hbk : b < k) (hz : w.cell? ⟨b, off + p, none⟩ = some (.int .u8 z)) (z0 : 0 ≤ z) (z1 : z ≤ 255) :
    Calls Try.prog 18 #[.pointer (some ⟨k, 0, none⟩), .int .i64 n] w fun e w' => e = .returned (.int .i64 (z % n)) ∧ w' = w.setCell ⟨k, 1, none⟩ (.int .i64 ((p : Int) + 1)) := by
  have hne : ((len : Int) == 0) = false := by simp; omega
  have hnz : (n == 0) = false := by simp; omega
  go_enter Try.func18, Try.ntmps18
  go_wp2
  go_ret
  exact ⟨rfl, rfl⟩

theorem pick_4 (w : World) (k p : Nat) (n : Int) (b off len cap : Nat) (z y : Int) (hp : p ≤ 1000000000)
    (hc0 : w.cell? ⟨k, 0, none⟩ = some (.slice (some ⟨b, off, none⟩) len cap)) (hc1 : w.cell? ⟨k, 1, none⟩ = some (.int .i64 p)) (hf : w.frozen? ⟨k, 1, none⟩ = false) (hn : 1 ≤ n)
    (hl : len ≤ p) (hl0 : 0 < len) (hl2 : len ≤ 2000) (hbk : b < k) (hz : w.cell? ⟨b, off + p % len, none⟩ = some (.int .u8 z)) (z0 : 0 ≤ z) (z1 : z ≤ 255)
    (hy : w.cell? ⟨b, off + (p * 7 + 3) % len, none⟩ = some (.int .u8 y)) (y0 : 0 ≤ y) (y1 : y ≤ 255) :
    Calls Try.prog 18 #[.pointer (some ⟨k, 0, none⟩), .int .i64 n] w fun e w' => ∃ v : Int, ∃ m : Nat, e = .returned (.int .i64 v) ∧ 0 ≤ v ∧ v < n ∧ w' = (w.setCell ⟨k, 1, none⟩ (.int .i64 ((p : Int) + 1))).drewN m := by
  have hne : ((len : Int) == 0) = false := by simp; omega
  have hnz : (n == 0) = false := by simp; omega
  have hi1 : (p : Int) % (len : Int) < (len : Int) := Int.emod_lt_of_pos _ (by omega)
  have hi2 : 0 ≤ (p : Int) % (len : Int) := Int.emod_nonneg _ (by omega)
  have hi3 : ((p : Int) * 7 + 3) % (len : Int) < (len : Int) := Int.emod_lt_of_pos _ (by omega)
  have hi4 : 0 ≤ ((p : Int) * 7 + 3) % (len : Int) := Int.emod_nonneg _ (by omega)
  have hq : 0 ≤ (p : Int) / (len : Int) := Int.ediv_nonneg (by omega) (by omega)
  have hq2 : (p : Int) / (len : Int) ≤ (p : Int) := Int.ediv_le_self _ (by omega)
  go_enter Try.func18, Try.ntmps18
  go_wp2
  go_quiet (fail)
  go_wp2
  go_ret
  have hx := xor_i64 (z * 131 + y * 1117 + (p : Int) * 29 + (p : Int) / (len : Int) * 53) ((z * 131 + y * 1117 + (p : Int) * 29 + (p : Int) / (len : Int) * 53) / 64) (by omega) (by omega) (by omega) (by omega)
  have hv := tmod_in hx.1 hn
  exact ⟨_, nq, rfl, hv.1, hv.2, rfl⟩

/-- A pick: a number from 0 to n - 1 (0, if n is none); the count goes one up. -/
theorem pick_x (w : World) (k p : Nat) (n : Int) (hp : p ≤ 1000000000) (h : Rd w k p) :
    Calls Try.prog 18 #[.pointer (some ⟨k, 0, none⟩), .int .i64 n] w fun e w' => ∃ v : Int, ∃ m : Nat, e = .returned (.int .i64 v) ∧ 0 ≤ v ∧ (1 ≤ n → v < n) ∧ w' = (w.setCell ⟨k, 1, none⟩ (.int .i64 ((p : Int) + 1))).drewN m := by
  obtain ⟨a, len, cap, h0, h1, hf, hl, hB⟩ := h
  by_cases hn : n < 1
  · refine (pick_1 w k p n a len cap hp h0 h1 hf hn).mono ?_
    rintro e w' ⟨rfl, rfl⟩
    exact ⟨0, 0, rfl, by omega, by omega, rfl⟩
  · rcases hB with rfl | ⟨b, off, rfl, hb, hz⟩
    · refine (pick_2 w k p n a cap hp h0 h1 hf (by omega)).mono ?_
      rintro e w' ⟨rfl, rfl⟩
      exact ⟨0, 0, rfl, by omega, by omega, rfl⟩
    · by_cases hlen : p < len
      · obtain ⟨z, z0, z1, hc⟩ := hz p hlen
        refine (pick_3 w k p n b off len cap z hp h0 h1 hf (by omega) hlen hl hb hc z0 z1).mono ?_
        rintro e w' ⟨rfl, rfl⟩
        exact ⟨_, 0, rfl, Int.emod_nonneg _ (by omega), fun _ => Int.emod_lt_of_pos _ (by omega), rfl⟩
      · by_cases hl0 : len = 0
        · subst hl0
          refine (pick_2 w k p n _ cap hp h0 h1 hf (by omega)).mono ?_
          rintro e w' ⟨rfl, rfl⟩
          exact ⟨0, 0, rfl, by omega, by omega, rfl⟩
        · obtain ⟨z, z0, z1, hc⟩ := hz (p % len) (Nat.mod_lt _ (by omega))
          obtain ⟨y, y0, y1, hd⟩ := hz ((p * 7 + 3) % len) (Nat.mod_lt _ (by omega))
          refine (pick_4 w k p n b off len cap z y hp h0 h1 hf (by omega) (by omega) (by omega) hl hb hc z0 z1 hd y0 y1).mono ?_
          rintro e w' ⟨v, m, rfl, g0, g1, rfl⟩
          exact ⟨v, m, rfl, g0, fun _ => g1, rfl⟩

theorem pick_n (w : World) (k p : Nat) (n : Int) (hp : p ≤ 1000000000) (hn : 1 ≤ n) (h : Rd w k p) :
    Calls Try.prog 18 #[.pointer (some ⟨k, 0, none⟩), .int .i64 n] w fun e w' => ∃ v : Int, ∃ m : Nat, e = .returned (.int .i64 v) ∧ 0 ≤ v ∧ v < n ∧ w' = (w.setCell ⟨k, 1, none⟩ (.int .i64 ((p : Int) + 1))).drewN m := by
  refine (pick_x w k p n hp h).mono ?_
  rintro e w' ⟨v, m, rfl, g0, g1, rfl⟩
  exact ⟨v, m, rfl, g0, g1 hn, rfl⟩

theorem pick_any (w : World) (k p : Nat) (n : Int) (hp : p ≤ 1000000000) (h : Rd w k p) :
    Calls Try.prog 18 #[.pointer (some ⟨k, 0, none⟩), .int .i64 n] w fun e w' => ∃ v : Int, e = .returned (.int .i64 v) ∧ 0 ≤ v ∧ (1 ≤ n → v < n) ∧ Rd w' k (p + 1) ∧ Tch k w.heap.size w w' := by
  refine (pick_x w k p n hp h).mono ?_
  rintro e w' ⟨v, m, rfl, g0, g1, rfl⟩
  exact ⟨v, rfl, g0, g1, h.next m, ((Tch.refl _ _ _).setCell _ _).drewN _⟩

theorem l6Open_any (w : World) (a : Option Addr) (len cap : Nat) (h : Src w a len cap) :
    Calls Try.prog 16 #[.slice a len cap] w fun e w' => e = .returned (.pointer (some ⟨w.heap.size, 0, none⟩)) ∧ Rd w' w.heap.size 0 ∧ Below w.heap.size w w' := by
  have hS := hide h
  obtain ⟨h1, h2, h3⟩ := h
  by_cases hl : len ≤ 2000
  · clear h3
    go_enter Try.func16, Try.ntmps16
    go_wp2
    go_ret
    exact ⟨rfl, Rd.made (unhide hS) (Nat.le_refl _) hl, (Below.refl _ _).alloc (Nat.le_refl _) _⟩
  · rcases h3 with rfl | ⟨b, off, rfl, -⟩
    · omega
    · go_enter Try.func16, Try.ntmps16
      go_wp2
      go_ret
      exact ⟨rfl, Rd.made (unhide hS) (by omega) (by omega), (Below.refl _ _).alloc (Nat.le_refl _) _⟩

end DW
end Go.Proofs.Ytlkompbigpbefab
