/-
  The draw of a tree: what the specification's l71Expr returns.
-/
import Derived.Test.YtlkompbigpbefabDrawExpr
namespace Go.Proofs.Ytlkompbigpbefab
open Go.RowKit Go.Sort Go.Joins
set_option linter.unusedVariables false
set_option maxRecDepth 8000
namespace DX
open DK DW SK EM ER
/-- What is answered lies in the block laid first. -/
theorem done {w w1 : World} {k p q BN : Nat} {kk a c : Int} {u : Value} {t : F} (R : Rd w1 k q) (T : Tch k w.heap.size w w1) (hk : k < w.heap.size) (hq : q ≤ p + BN) (hl : t.len ≤ 2) (ho : OwnX (w.heap.size + 1) w1 u t) :
    ∃ (kk' a' c' : Int) (t' : F) (u' : Value) (q' : Nat), Ending.returned (exV kk a c u) = .returned (exV kk' a' c' u') ∧ OwnX w.heap.size (set4 w1 w.heap.size 0 (.int .i64 kk) (.int .i64 a) (.int .i64 c) u) u' t' ∧ t'.len ≤ 2 ∧
      Rd (set4 w1 w.heap.size 0 (.int .i64 kk) (.int .i64 a) (.int .i64 c) u) k q' ∧ q' ≤ p + BN ∧ Tch k w.heap.size w (set4 w1 w.heap.size 0 (.int .i64 kk) (.int .i64 a) (.int .i64 c) u) := by
  refine ⟨kk, a, c, t, u, q, rfl, OwnX.weak (Nat.le_succ _) (ho.keep fun b hb _ => set4_other w1 _ _ _ _ (by have : w.heap.size + 1 ≤ b := hb; omega)), hl, rd_moved R (set4_other w1 _ _ _ _ (by omega)) (fun j hj => set4_other w1 _ _ _ _ (by omega)), hq, T.trans (Tch.ofBelow (set4_below (Below.refl _ _) (Nat.le_refl _) _ _ _ _))⟩
set_option maxHeartbeats 8000000 in
theorem leaf_true (deep : Int) (w : World) (k p : Nat) (hd : deep < 2) (hd0 : -1000 ≤ deep) (hp : p ≤ 800000000) (h : Rd w k p) :
    Calls Try.prog 26 #[.pointer (some ⟨k, 0, none⟩), .int .i64 deep, .bool true] w fun e w' => ∃ (kk a c : Int) (t : F) (u : Value) (q : Nat), e = .returned (exV kk a c u) ∧ OwnX w.heap.size w' u t ∧ t.len ≤ 2 ∧ Rd w' k q ∧ q ≤ p + 60 ∧ Tch k w.heap.size w w' := by
  have hk := h.lt
  have X := Ob.new w 0 0 0 (.slice none 0 0) 25
  have R := h.alloc (.cells #[.int .i64 0, .int .i64 0, .int .i64 0, .slice none 0 0] 25)
  have T := (Tch.refl k w.heap.size w).alloc (Nat.le_refl _) (.cells #[.int .i64 0, .int .i64 0, .int .i64 0, .slice none 0 0] 25)
  go_enter Try.func26, Try.ntmps26
  go_wp2_with fail
  generalize (w.alloc (.cells #[.int .i64 0, .int .i64 0, .int .i64 0, .slice none 0 0] 25)) = w1 at *
  go_wp2_with fail
  refine (pick_any _ k _ _ (by omega) R).mono ?_
  rintro e w2 ⟨b, rfl, b0, b1, R', T'⟩
  replace X := ob_tch X T' (by omega)
  replace R := R'
  replace T := T.trans (T'.mono T.size)
  clear R' T'
  replace b1 := b1 (by omega)
  go_wp2_with fail
  refine (pick_any _ k _ _ (by omega) R).mono ?_
  rintro e w3 ⟨d, rfl, d0, d1, R', T'⟩
  replace X := ob_tch X T' (by omega)
  replace R := R'
  replace T := T.trans (T'.mono T.size)
  clear R' T'
  replace d1 := d1 (by omega)
  obtain ⟨⟨x0, x1, x2, x3⟩, xf⟩ := X
  go_wp2
  refine bodyPost_ret (v := exV (1) (d - (1 + b)) (1 + b) (.slice none 0 0)) (by simp [results, Try.results26, go_sem, *]) rfl ?_
  exact done (t := .nil) R T hk (by omega) (Nat.zero_le _) OwnX.nil
set_option maxHeartbeats 8000000 in
theorem leaf_false (deep : Int) (w : World) (k p : Nat) (hd : deep < 2) (hd0 : -1000 ≤ deep) (hp : p ≤ 800000000) (h : Rd w k p) :
    Calls Try.prog 26 #[.pointer (some ⟨k, 0, none⟩), .int .i64 deep, .bool false] w fun e w' => ∃ (kk a c : Int) (t : F) (u : Value) (q : Nat), e = .returned (exV kk a c u) ∧ OwnX w.heap.size w' u t ∧ t.len ≤ 2 ∧ Rd w' k q ∧ q ≤ p + 60 ∧ Tch k w.heap.size w w' := by
  have hk := h.lt
  have X := Ob.new w 0 0 0 (.slice none 0 0) 25
  have R := h.alloc (.cells #[.int .i64 0, .int .i64 0, .int .i64 0, .slice none 0 0] 25)
  have T := (Tch.refl k w.heap.size w).alloc (Nat.le_refl _) (.cells #[.int .i64 0, .int .i64 0, .int .i64 0, .slice none 0 0] 25)
  go_enter Try.func26, Try.ntmps26
  go_wp2_with fail
  generalize (w.alloc (.cells #[.int .i64 0, .int .i64 0, .int .i64 0, .slice none 0 0] 25)) = w1 at *
  go_wp2_with fail
  refine (pick_any _ k _ _ (by omega) R).mono ?_
  rintro e w2 ⟨s, rfl, s0, s1, R', T'⟩
  replace X := ob_tch X T' (by omega)
  replace R := R'
  replace T := T.trans (T'.mono T.size)
  clear R' T'
  replace s1 := s1 (by omega)
  by_cases z : s = 0
  · subst z
    go_wp2_with fail
    refine (l71Big_any _ _ _ _ (by omega) R (by omega) (by omega)).mono ?_
    rintro e w3 ⟨v, p2, rfl, v0, v1, q2, R', T'⟩
    replace X := ob_tch X T' (by omega)
    replace R := R'
    replace T := T.trans (T'.mono T.size)
    clear R' T'
    obtain ⟨⟨x0, x1, x2, x3⟩, xf⟩ := X
    go_wp2
    refine bodyPost_ret (v := exV (4) (v) (0) (.slice none 0 0)) (by simp [results, Try.results26, go_sem, *]) rfl ?_
    exact done (t := .nil) R T hk (by omega) (Nat.zero_le _) OwnX.nil
  · have e0 : (s == 0) = false := by simp; omega
    go_wp2_with fail
    refine (pick_any _ k _ _ (by omega) R).mono ?_
    rintro e w3 ⟨b, rfl, b0, b1, R', T'⟩
    replace X := ob_tch X T' (by omega)
    replace R := R'
    replace T := T.trans (T'.mono T.size)
    clear R' T'
    replace b1 := b1 (by omega)
    go_wp2_with fail
    refine (pick_any _ k _ _ (by omega) R).mono ?_
    rintro e w4 ⟨d, rfl, d0, d1, R', T'⟩
    replace X := ob_tch X T' (by omega)
    replace R := R'
    replace T := T.trans (T'.mono T.size)
    clear R' T'
    replace d1 := d1 (by omega)
    obtain ⟨⟨x0, x1, x2, x3⟩, xf⟩ := X
    go_wp2
    refine bodyPost_ret (v := exV (1) (d - (1 + b)) (1 + b) (.slice none 0 0)) (by simp [results, Try.results26, go_sem, *]) rfl ?_
    exact done (t := .nil) R T hk (by omega) (Nat.zero_le _) OwnX.nil
end DX
end Go.Proofs.Ytlkompbigpbefab
