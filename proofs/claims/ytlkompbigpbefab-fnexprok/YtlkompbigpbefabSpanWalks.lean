/-
  What the functions of chapter 2 (the program's, and the specification's) return, a contract each; errTooGreat holds a sentinel.
-/
import Derived.Test.YtlkompbigpbefabRows
import Derived.Test.YtlkompbigpbefabSpanMath
import Derived.Test.YtlkompbigpbefabNumWalks
import Derived.Test.YtlkompbigpbefabSpanFits
import Derived.Test.YtlkompbigpbefabQuietTail
import Derived.WalkKit
import Derived.Below
import Derived.Lib.MinMax
namespace Go.Proofs.Ytlkompbigpbefab
open Go.RowKit Go.Sort
set_option linter.unusedVariables false
namespace SW
open SM

/-- Two numbers lie in block 'b'. -/
structure Box (w : World) (b : Nat) (x y : Int) : Prop where
  c0 : w.cell? ⟨b, 0, none⟩ = some (.int .i64 x)
  c1 : w.cell? ⟨b, 1, none⟩ = some (.int .i64 y)
  f0 : w.frozen? ⟨b, 0, none⟩ = false
  f1 : w.frozen? ⟨b, 1, none⟩ = false
theorem Box.lt {w : World} {b : Nat} {x y : Int} (h : Box w b x y) : b < w.heap.size := cell_lt h.c0
theorem Box.kept {w w' : World} {b : Nat} {x y : Int} (h : Box w b x y) (k : Below w.heap.size w w') : Box w' b x y :=
  ⟨(k.cell h.lt).trans h.c0, (k.cell h.lt).trans h.c1, (k.frozen h.lt).trans h.f0, (k.frozen h.lt).trans h.f1⟩
theorem Box.new (w : World) (x y : Int) (t : TypeId) : Box (w.alloc (.cells #[.int .i64 x, .int .i64 y] t)) w.heap.size x y :=
  ⟨by simp [go_sem], by simp [go_sem], by simp [go_sem], by simp [go_sem]⟩
theorem Box.alloc {w : World} {b : Nat} {x y : Int} (h : Box w b x y) (o : Obj) : Box (w.alloc o) b x y := h.kept ((Below.refl _ _).alloc (Nat.le_refl _) _)
theorem Box.new2 (w : World) (o : Obj) (x y : Int) (t : TypeId) : Box ((w.alloc o).alloc (.cells #[.int .i64 x, .int .i64 y] t)) (w.heap.size + 1) x y := by
  have := Box.new (w.alloc o) x y t
  simpa using this
theorem Box.new3 (w : World) (o o' : Obj) (x y : Int) (t : TypeId) : Box (((w.alloc o).alloc o').alloc (.cells #[.int .i64 x, .int .i64 y] t)) (w.heap.size + 2) x y := by
  have := Box.new ((w.alloc o).alloc o') x y t
  simpa using this
theorem Box.set {w : World} {b : Nat} {x y : Int} (h : Box w b x y) (x' y' : Int) : Box ((w.setCell ⟨b, 0, none⟩ (.int .i64 x')).setCell ⟨b, 1, none⟩ (.int .i64 y')) b x' y' := by
  obtain ⟨c0, c1, f0, f1⟩ := h
  exact ⟨by simp [go_sem, *], by simp [go_sem, *], by simp [go_sem, *], by simp [go_sem, *]⟩
theorem Box.apart {w : World} {b c o : Nat} {x y : Int} (h : Box w b x y) (hn : c ≠ b) (v : Value) : Box (w.setCell ⟨c, o, none⟩ v) b x y := by
  have e : (w.setCell ⟨c, o, none⟩ v).heap[b]? = w.heap[b]? := Below.heap_setCell _ _ _ _ (Ne.symm hn)
  exact ⟨(World.cell?_of_block (w := w) e).trans h.c0, (World.cell?_of_block (w := w) e).trans h.c1, (World.frozen?_of_block (w := w) e).trans h.f0, (World.frozen?_of_block (w := w) e).trans h.f1⟩
theorem below1 {w w1 w2 : World} (B1 : Below w.heap.size w w1) (B2 : Below w1.heap.size w1 w2) : Below w.heap.size w w2 := B1.trans (B2.mono B1.size)
theorem below_new (w : World) (o : Obj) : Below w.heap.size w (w.alloc o) := (Below.refl _ _).alloc (Nat.le_refl _) _
theorem below_set2 {w w1 : World} {b : Nat} (B : Below w.heap.size w w1) (hb : w.heap.size ≤ b) (u v : Value) : Below w.heap.size w ((w1.setCell ⟨b, 0, none⟩ u).setCell ⟨b, 1, none⟩ v) :=
  (B.setCell hb _).setCell hb _

/-! ### the specification's -/
theorem inB_no {l h : Int} (e : NM.inB l (-1073000000) 1073000000 = false) : false = okS l h := (okS_no (by have := of_decide_eq_false e; omega)).symm
theorem inB_yes {l h : Int} (e : NM.inB l (-1073000000) 1073000000 = true) : NM.inB h l 1073000000 = okS l h := by
  have e := of_decide_eq_true e
  exact bool_eq (fun k => okS_mk (by have := of_decide_eq_true k; omega)) (fun k => decide_eq_true (by have := okS_of k; omega))

theorem sSpanOk_any (l h : Int) (w : World) :
    Calls Try.prog 84 #[spV l h] w fun e w' => e = .returned (.bool (okS l h)) ∧ Below w.heap.size w w' := by
  go_enter Try.func84, Try.ntmps84
  go_wp2_with fail
  refine (NW.l6In_any _ _ _ _).mono ?_
  rintro e w' ⟨rfl, rfl⟩
  cases h1 : NM.inB l (-1073000000) 1073000000
  · go_wp2
    go_ret
    exact ⟨NW.ret_bool (inB_no h1), below_new _ _⟩
  · go_wp2_with fail
    refine (NW.l6In_any _ _ _ _).mono ?_
    rintro e w' ⟨rfl, rfl⟩
    go_wp2
    go_ret
    exact ⟨NW.ret_bool (inB_yes h1), below_new _ _⟩

theorem l2Fit_any (l h : Int) (w : World) :
    Calls Try.prog 81 #[.int .i64 l, .int .i64 h] w fun e w' => e = .returned (.tuple #[spV (sel (okS l h) l) (sel (okS l h) h), .bool (okS l h)]) ∧ Below w.heap.size w w' := by
  go_enter Try.func81, Try.ntmps81
  go_wp2_with fail
  refine (sSpanOk_any l h _).mono ?_
  rintro e w2 ⟨rfl, B2⟩
  have B := below1 (below1 (below_new w _) (below_new _ _)) B2
  obtain ⟨c0, c1, f0, f1⟩ := ((Box.new w 0 0 58).alloc _).kept B2
  obtain ⟨d0, d1, g0, g1⟩ := (Box.new2 w _ l h 58).kept B2
  clear B2
  cases ho : okS l h
  · go_wp2
    refine bodyPost_ret (v := .tuple #[.agg #[.int .i64 0, .int .i64 0], .bool false]) (by simp [results, Try.results81, go_sem, *]) rfl ⟨by rw [ho]; rfl, ?_⟩
    exact below_set2 B (Nat.le_refl _) _ _
  · go_wp2
    refine bodyPost_ret (v := .tuple #[.agg #[.int .i64 l, .int .i64 h], .bool true]) (by simp [results, Try.results81, go_sem, *]) rfl ⟨by rw [ho]; rfl, ?_⟩
    exact below_set2 B (Nat.le_refl _) _ _

theorem l2Rat_any (x y : Int) (w : World) :
    Calls Try.prog 80 #[.int .i64 x, .int .i64 y] w fun e w' => e = .returned (.bool (ratB x y)) ∧ w' = w := by
  go_enter Try.func80, Try.ntmps80
  go_wp2_with fail
  refine (NW.l6In_any _ _ _ _).mono ?_
  rintro e w' ⟨rfl, rfl⟩
  cases h1 : NM.inB x (-1000000000) 1000000000
  · go_wp2
    go_ret
    exact ⟨NW.ret_bool (ratB_no (by have := of_decide_eq_false h1; omega)).symm, rfl⟩
  · go_wp2_with fail
    refine (NW.l6In_any _ _ _ _).mono ?_
    rintro e w' ⟨rfl, rfl⟩
    go_wp2
    go_ret
    have e := of_decide_eq_true h1
    exact ⟨NW.ret_bool (bool_eq (fun k => ratB_mk (by have := of_decide_eq_true k; omega)) (fun k => decide_eq_true (by have := ratB_of k; omega))), rfl⟩

theorem isNumber_any (x y : Int) (w : World) :
    Calls Try.prog 46 #[.int .i64 x, .int .i64 y] w fun e w' => e = .returned (.bool (ratB x y)) ∧ w' = w := by
  by_cases c : -1000000000 ≤ x ∧ x ≤ 1000000000 ∧ 1 ≤ y ∧ y ≤ 1000000000
  · have H : Hid (true = ratB x y) := (ratB_mk c).symm
    obtain ⟨c1, c2, c3, c4⟩ := c
    go_enter Try.func46, Try.ntmps46
    go_wp2
    go_ret
    exact ⟨NW.ret_bool H.out, rfl⟩
  · have H : Hid (false = ratB x y) := (ratB_no c).symm
    rcases (show x < -1000000000 ∨ (-1000000000 ≤ x ∧ 1000000000 < x) ∨ (-1000000000 ≤ x ∧ x ≤ 1000000000 ∧ y < 1) ∨ (-1000000000 ≤ x ∧ x ≤ 1000000000 ∧ 1 ≤ y ∧ 1000000000 < y) by omega) with c1 | ⟨c1, c2⟩ | ⟨c1, c2, c3⟩ | ⟨c1, c2, c3, c4⟩
    all_goals go_enter Try.func46, Try.ntmps46
    all_goals go_wp2
    all_goals go_ret
    all_goals first | exact ⟨NW.ret_bool H.out, rfl⟩ | exact ⟨NW.ret_bool (by rw [← H.out]; exact decide_eq_false (by omega)), rfl⟩

/-! ### numbers told by a and b -/
theorem of_no {a b : Int} (h : ratB a b = false) : ofB a b = false := by simp [ofB, h]
theorem of_yes {a b : Int} (h : ratB a b = true) : ofB a b = okS (ofLo a b) (ofHi a b) := by simp [ofB, h]

theorem sSpanOf_any (x y : Int) (w : World) :
    Calls Try.prog 53 #[.int .i64 x, .int .i64 y] w fun e w' => e = .returned (.tuple #[spV (sel (ofB x y) (ofLo x y)) (sel (ofB x y) (ofHi x y)), .bool (ofB x y)]) ∧ Below w.heap.size w w' := by
  go_enter Try.func53, Try.ntmps53
  go_wp2_with fail
  refine (l2Rat_any _ _ _).mono ?_
  rintro e w' ⟨rfl, rfl⟩
  cases hr : ratB x y
  · go_wp2
    refine bodyPost_ret (v := .tuple #[.agg #[.int .i64 0, .int .i64 0], .bool false]) (by simp [results, Try.results53, go_sem, *]) rfl ⟨by rw [of_no hr]; rfl, ?_⟩
    exact below_new _ _
  · obtain ⟨r1, r2, r3, r4⟩ := ratB_of hr
    have H : Hid (x * 1000000000 = 1000000000 * x) := Int.mul_comm _ _
    go_wp2_with fail
    refine (NW.l1Down_any _ _ _ (by omega) (by omega) (by omega) (by omega)).mono ?_
    rintro e w' ⟨rfl, rfl⟩
    go_wp2_with fail
    refine (NW.l1Up_any _ _ _ (by omega) (by omega) (by omega) (by omega)).mono ?_
    rintro e w' ⟨rfl, rfl⟩
    go_wp2_with fail
    refine (l2Fit_any _ _ _).mono ?_
    rintro e w2 ⟨rfl, B2⟩
    have B := below1 (below_new w _) B2
    obtain ⟨c0, c1, f0, f1⟩ := (Box.new w 0 0 58).kept B2
    rw [H.out]
    have E := of_yes hr
    unfold ofLo ofHi at E
    rw [← E]
    clear B2 E
    go_wp2
    refine bodyPost_ret (v := .tuple #[.agg #[.int .i64 (sel (ofB x y) (ofLo x y)), .int .i64 (sel (ofB x y) (ofHi x y))], .bool (ofB x y)]) (by simp [results, Try.results53, go_sem, ofLo, ofHi, *]) rfl ⟨rfl, ?_⟩
    exact below_set2 B (Nat.le_refl _) _ _


theorem fit_okS {l h : Int} (c : l ≤ h) : fitB l h = okS l h := okS_fit c


/-! ### is a number in a span -/
theorem has_no1 {l h x y : Int} (e : okS l h = false) : false = hasB l h x y := by simp [hasB, e]
theorem has_no2 {l h x y : Int} (e : ratB x y = false) : false = hasB l h x y := by simp [hasB, e]
theorem has_yes {l h x y : Int} (e : okS l h = true) (k : ratB x y = true) : hasB l h x y = (decide (l * y ≤ 1000000000 * x) && decide (1000000000 * x ≤ h * y)) := by simp [hasB, e, k]
theorem has_bd {l h x y : Int} (e : okS l h = true) (k : ratB x y = true) : (-1073000000000000000 ≤ l * y ∧ l * y ≤ 1073000000000000000) ∧ -1073000000000000000 ≤ h * y ∧ h * y ≤ 1073000000000000000 := by
  have e := okS_of e
  have k := ratB_of k
  have m1 := mul_bd (x := l) (y := y) (A := 1073000000) (B := 1000000000) (by omega) (by omega) (by omega) (by omega)
  have m2 := mul_bd (x := h) (y := y) (A := 1073000000) (B := 1000000000) (by omega) (by omega) (by omega) (by omega)
  omega



/-! ### is a span in another one -/
theorem within_no1 {sl sh tl th : Int} (e : okS sl sh = false) : false = withinB sl sh tl th := by simp [withinB, e]
theorem within_no2 {sl sh tl th : Int} (e : okS tl th = false) : false = withinB sl sh tl th := by simp [withinB, e]
theorem within_yes {sl sh tl th : Int} (e : okS sl sh = true) (k : okS tl th = true) : withinB sl sh tl th = (decide (tl ≤ sl) && decide (sh ≤ th)) := by simp [withinB, e, k]



/-! ### both of two spans -/
/-- Two spans and the place of the answer, as they lie when a function begins. -/
structure Two (w : World) (b : Nat) (sl sh tl th : Int) : Prop where
  s : Box w b sl sh
  t : Box w (b + 1) tl th
  r : Box w (b + 2) 0 0
theorem Two.new (w : World) (sl sh tl th : Int) (ty : TypeId) : Two (((w.alloc (.cells #[.int .i64 sl, .int .i64 sh] ty)).alloc (.cells #[.int .i64 tl, .int .i64 th] ty)).alloc (.cells #[.int .i64 0, .int .i64 0] ty)) w.heap.size sl sh tl th :=
  ⟨((Box.new w sl sh ty).alloc _).alloc _, (Box.new2 w _ tl th ty).alloc _, Box.new3 w _ _ 0 0 ty⟩
theorem Two.kept {w w' : World} {b : Nat} {sl sh tl th : Int} (h : Two w b sl sh tl th) (k : Below w.heap.size w w') : Two w' b sl sh tl th := ⟨h.s.kept k, h.t.kept k, h.r.kept k⟩
theorem below_new3 (w : World) (o o' o'' : Obj) : Below w.heap.size w (((w.alloc o).alloc o').alloc o'') := below1 (below1 (below_new w o) (below_new _ o')) (below_new _ o'')
theorem below_new2 (w : World) (o o' : Obj) : Below w.heap.size w ((w.alloc o).alloc o') := below1 (below_new w o) (below_new _ o')
theorem sel_no {c : Bool} (h : c = false) (x : Int) : sel c x = 0 := by rw [h]; rfl




end SW
end Go.Proofs.Ytlkompbigpbefab
