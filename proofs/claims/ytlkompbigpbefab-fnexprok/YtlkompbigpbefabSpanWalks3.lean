/-
  SpanMul, SpanDiv, SpanRoot, and a number within a span: a contract each.
-/
import Derived.Test.YtlkompbigpbefabRows
import Derived.Test.YtlkompbigpbefabSpanMath
import Derived.Test.YtlkompbigpbefabNumWalks
import Derived.Test.YtlkompbigpbefabSpanFits
import Derived.Test.YtlkompbigpbefabQuietTail
import Derived.Test.YtlkompbigpbefabLoose
import Derived.Test.YtlkompbigpbefabSpanWalks
import Derived.Test.YtlkompbigpbefabSpanWalks2
import Derived.WalkKit
import Derived.Below
import Derived.Lib.MinMax
namespace Go.Proofs.Ytlkompbigpbefab
open Go.RowKit Go.Sort
set_option linter.unusedVariables false
namespace SW
open SM

theorem mul_no {sl sh tl th : Int} (h : bothB sl sh tl th = false) : mulB sl sh tl th = false := by simp [mulB, h]
theorem mul_yes {sl sh tl th : Int} (h : bothB sl sh tl th = true) : okS (mulLo sl sh tl th) (mulHi sl sh tl th) = mulB sl sh tl th := by simp [mulB, h]
theorem div_no {sl sh tl th : Int} (h : bothB sl sh tl th = false) : divB sl sh tl th = false := by simp [divB, h]
theorem div_no2 {sl sh tl th : Int} (h : apartB tl th = false) : divB sl sh tl th = false := by simp [divB, h]
theorem div_yes {sl sh tl th : Int} (h : bothB sl sh tl th = true) (k : apartB tl th = true) : okS (divLo sl sh tl th) (divHi sl sh tl th) = divB sl sh tl th := by simp [divB, h, k]
theorem has_zero {tl th : Int} (h : okS tl th = true) : hasB tl th 0 1 = !apartB tl th := by
  rw [has_yes h (by decide)]
  unfold apartB
  rw [Bool.not_not]
  congr 1
  · congr 1; apply propext; omega
  · congr 1; apply propext; omega

/-- In a region: the one operation that makes a block of two numbers. -/
def ndBox (base k : Nat) : Nat → Option (Value → World → Prop) := fun i => if i = k then some (fun u w' => ∃ b, u = .pointer (some ⟨b, 0, none⟩) ∧ base ≤ b ∧ Box w' b 0 0) else none
theorem ndBox_keeps {base k : Nat} {w w' : World} (h : Below w.heap.size w w') : LR.Keeps (ndBox base k) w w' := by
  intro i Φ u hi hΦ
  unfold ndBox at hi
  split at hi
  · cases hi
    obtain ⟨b, rfl, hb, X⟩ := hΦ
    exact ⟨b, rfl, hb, X.kept h⟩
  · cases hi
abbrev Cl (w : World) : Nat → World → Prop := fun _ w' => ∃ p : Regrown, w' = grow (redrawn w p.d) p.os
theorem Cl.start (w : World) (n : Nat) : Cl w n { w with drawn := w.drawn + 1 } := ⟨⟨w.drawn + 1, #[]⟩, by rw [grow_empty]; rfl⟩
theorem loose_of {f : FuncId} {args : Array Value} {w : World} {d : Nat} {os : Array Obj} {v : Value} {base k : Nat}
    (h : Calls Try.prog f args (grow (redrawn w d) os) fun e w' => e = .returned v ∧ Below (grow (redrawn w d) os).heap.size (grow (redrawn w d) os) w') :
    Calls Try.prog f args (grow (redrawn w d) os) fun e w'' => e = .returned v ∧ (∃ p : Regrown, w'' = grow (redrawn w p.d) p.os) ∧ LR.Keeps (ndBox base k) (grow (redrawn w d) os) w'' :=
  h.mono fun _ _ ⟨he, hb⟩ => ⟨he, regrown_of_below (below1 (below_regrown w d os) hb), ndBox_keeps hb⟩
theorem alloc_loose (w : World) (d : Nat) (os : Array Obj) (k : Nat) (t : TypeId) (m : Nat) (hm : m = (grow (redrawn w d) os).heap.size) : (∃ p : Regrown, (grow (redrawn w d) os).alloc (.cells #[.int .i64 0, .int .i64 0] t) = grow (redrawn w p.d) p.os) ∧
    (∃ b, Value.pointer (some ⟨m, 0, none⟩) = .pointer (some ⟨b, 0, none⟩) ∧ w.heap.size ≤ b ∧ Box ((grow (redrawn w d) os).alloc (.cells #[.int .i64 0, .int .i64 0] t)) b 0 0) ∧
    LR.Keeps (ndBox w.heap.size k) (grow (redrawn w d) os) ((grow (redrawn w d) os).alloc (.cells #[.int .i64 0, .int .i64 0] t)) :=
  ⟨regrown_of_below (below1 (below_regrown w d os) (below_new _ _)), ⟨_, rfl, hm ▸ (below_regrown w d os).size, hm ▸ Box.new _ 0 0 t⟩, ndBox_keeps (below_new _ _)⟩
theorem below_setBox {w w1 : World} {b : Nat} (B : Below w.heap.size w w1) (hb : w.heap.size ≤ b) (u v : Value) : Below w.heap.size w ((w1.setCell ⟨b, 0, none⟩ u).setCell ⟨b, 1, none⟩ v) := below_set2 B hb u v





def fourLo (x y z u : Int) : Int := min (min x y) (min z u)
def fourHi (x y z u : Int) : Int := max (max x y) (max z u)
theorem ret_four {a b c d : Int} (h : a = b) (g : c = d) : Ending.returned (.tuple #[.int .i64 a, .int .i64 c]) = .returned (.tuple #[.int .i64 b, .int .i64 d]) := by rw [h, g]
theorem l2Four_any (x y z u : Int) (w : World) :
    Calls Try.prog 89 #[.int .i64 x, .int .i64 y, .int .i64 z, .int .i64 u] w fun e w' => e = .returned (.tuple #[.int .i64 (fourLo x y z u), .int .i64 (fourHi x y z u)]) ∧ w' = w := by
  go_enter Try.func89, Try.ntmps89
  go_wp2
  go_ret2
  exact ⟨ret_four (by unfold fourLo; omega) (by unfold fourHi; omega), rfl⟩
theorem mulLo_four (sl sh tl th : Int) : NM.down (fourLo (sl * tl) (sl * th) (sh * tl) (sh * th)) 1000000000 = mulLo sl sh tl th := mulLo_min
theorem mulHi_four (sl sh tl th : Int) : NM.up (fourHi (sl * tl) (sl * th) (sh * tl) (sh * th)) 1000000000 = mulHi sl sh tl th := mulHi_max
theorem divLo_four (sl sh tl th : Int) : fourLo (qd sl tl) (qd sl th) (qd sh tl) (qd sh th) = divLo sl sh tl th := rfl
theorem divHi_four (sl sh tl th : Int) : fourHi (qu sl tl) (qu sl th) (qu sh tl) (qu sh th) = divHi sl sh tl th := rfl

theorem sSpanMul_any (sl sh tl th : Int) (w : World) :
    Calls Try.prog 59 #[spV sl sh, spV tl th] w fun e w' => e = .returned (.tuple #[spV (sel (mulB sl sh tl th) (mulLo sl sh tl th)) (sel (mulB sl sh tl th) (mulHi sl sh tl th)), .bool (mulB sl sh tl th)]) ∧ Below w.heap.size w w' := by
  go_enter Try.func59, Try.ntmps59
  go_wp2_with fail
  refine (sSpanOk_any sl sh _).mono ?_
  rintro e w2 ⟨rfl, B2⟩
  have B := below1 (below_new3 w _ _ _) B2
  have T := (Two.new w sl sh tl th 58).kept B2
  clear B2
  cases ho : okS sl sh
  · obtain ⟨⟨c0, c1, f0, f1⟩, ⟨d0, d1, g0, g1⟩, ⟨e0, e1, i0, i1⟩⟩ := T
    go_wp2
    refine bodyPost_ret (v := .tuple #[.agg #[.int .i64 0, .int .i64 0], .bool false]) (by simp [results, Try.results59, go_sem, *]) rfl ⟨by rw [mul_no (both_no1 ho)]; rfl, ?_⟩
    exact below_set2 B (by omega) _ _
  · obtain ⟨d0, d1, g0, g1⟩ := T.t
    go_wp2_with fail
    refine (sSpanOk_any tl th _).mono ?_
    rintro e w3 ⟨rfl, B3⟩
    replace B := below1 B B3
    replace T := T.kept B3
    clear B3 d0 d1 g0 g1
    obtain ⟨⟨c0, c1, f0, f1⟩, ⟨d0, d1, g0, g1⟩, R⟩ := T
    cases hp : okS tl th
    · obtain ⟨e0, e1, i0, i1⟩ := R
      go_wp2
      refine bodyPost_ret (v := .tuple #[.agg #[.int .i64 0, .int .i64 0], .bool false]) (by simp [results, Try.results59, go_sem, *]) rfl ⟨by rw [mul_no (both_no2 hp)]; rfl, ?_⟩
      exact below_set2 B (by omega) _ _
    · have hb : bothB sl sh tl th = true := both_mk ho hp
      obtain ⟨o1, o2, o3⟩ := okS_of ho
      obtain ⟨p1, p2, p3⟩ := okS_of hp
      have m1 := mul_max o1 (by omega) p1 (by omega)
      have m2 := mul_max o1 (by omega) (show -1073000000 ≤ th by omega) p3
      have m3 := mul_max (show -1073000000 ≤ sh by omega) o3 p1 (by omega)
      have m4 := mul_max (show -1073000000 ≤ sh by omega) o3 (show -1073000000 ≤ th by omega) p3
      have b1 : -1152921504606846976 ≤ fourLo (sl * tl) (sl * th) (sh * tl) (sh * th) ∧ fourLo (sl * tl) (sl * th) (sh * tl) (sh * th) ≤ 1152921504606846976 := by unfold fourLo; omega
      have b2 : -1152921504606846976 ≤ fourHi (sl * tl) (sl * th) (sh * tl) (sh * th) ∧ fourHi (sl * tl) (sl * th) (sh * tl) (sh * th) ≤ 1152921504606846976 := by unfold fourHi; omega
      go_wp2_with fail
      refine (l2Four_any _ _ _ _ _).mono ?_
      rintro e w' ⟨rfl, rfl⟩
      go_wp2_with fail
      refine (NW.l1Down_any _ _ _ (by omega) (by omega) (by omega) (by omega)).mono ?_
      rintro e w' ⟨rfl, rfl⟩
      go_wp2_with fail
      refine (NW.l1Up_any _ _ _ (by omega) (by omega) (by omega) (by omega)).mono ?_
      rintro e w' ⟨rfl, rfl⟩
      rw [mulLo_four, mulHi_four]
      go_wp2_with fail
      refine (l2Fit_any _ _ _).mono ?_
      rintro e w4 ⟨rfl, B4⟩
      obtain ⟨e0, e1, i0, i1⟩ := R.kept B4
      replace B := below1 B B4
      rw [mul_yes hb]
      clear B4
      go_wp2
      refine bodyPost_ret (v := .tuple #[.agg #[.int .i64 (sel (mulB sl sh tl th) (mulLo sl sh tl th)), .int .i64 (sel (mulB sl sh tl th) (mulHi sl sh tl th))], .bool (mulB sl sh tl th)]) (by simp [results, Try.results59, go_sem, *]) rfl ⟨rfl, ?_⟩
      exact below_set2 B (by omega) _ _


theorem l2Over_any (x y : Int) (w : World) (h1 : -1073000000 ≤ x) (h2 : x ≤ 1073000000) (h3 : -1073000000 ≤ y) (h4 : y ≤ 1073000000) (h5 : y < 0 ∨ 1 ≤ y) :
    Calls Try.prog 90 #[.int .i64 x, .int .i64 y] w fun e w' => e = .returned (.tuple #[.int .i64 (qd x y), .int .i64 (qu x y)]) ∧ w' = w := by
  by_cases c : y < 0
  · have E1 : Hid (qd x y = NM.down (-x * 1000000000) (-y)) := by
      rw [Int.mul_comm]
      exact if_pos c
    have E2 : Hid (qu x y = NM.up (-x * 1000000000) (-y)) := by
      rw [Int.mul_comm]
      exact if_pos c
    go_enter Try.func90, Try.ntmps90
    go_wp2_with fail
    refine (NW.l1Down_any _ _ _ (by omega) (by omega) (by omega) (by omega)).mono ?_
    rintro e w' ⟨rfl, rfl⟩
    go_wp2_with fail
    refine (NW.l1Up_any _ _ _ (by omega) (by omega) (by omega) (by omega)).mono ?_
    rintro e w' ⟨rfl, rfl⟩
    rw [← E1.out, ← E2.out]
    go_wp2
    go_ret2
    exact ⟨rfl, rfl⟩
  · have E1 : Hid (qd x y = NM.down (x * 1000000000) y) := by
      rw [Int.mul_comm]
      exact if_neg c
    have E2 : Hid (qu x y = NM.up (x * 1000000000) y) := by
      rw [Int.mul_comm]
      exact if_neg c
    go_enter Try.func90, Try.ntmps90
    go_wp2_with fail
    refine (NW.l1Down_any _ _ _ (by omega) (by omega) (by omega) (by omega)).mono ?_
    rintro e w' ⟨rfl, rfl⟩
    go_wp2_with fail
    refine (NW.l1Up_any _ _ _ (by omega) (by omega) (by omega) (by omega)).mono ?_
    rintro e w' ⟨rfl, rfl⟩
    rw [← E1.out, ← E2.out]
    go_wp2
    go_ret2
    exact ⟨rfl, rfl⟩

theorem sSpanDiv_any (sl sh tl th : Int) (w : World) :
    Calls Try.prog 60 #[spV sl sh, spV tl th] w fun e w' => e = .returned (.tuple #[spV (sel (divB sl sh tl th) (divLo sl sh tl th)) (sel (divB sl sh tl th) (divHi sl sh tl th)), .bool (divB sl sh tl th)]) ∧ Below w.heap.size w w' := by
  go_enter Try.func60, Try.ntmps60
  go_wp2_with fail
  refine (sSpanOk_any sl sh _).mono ?_
  rintro e w2 ⟨rfl, B2⟩
  have B := below1 (below_new3 w _ _ _) B2
  have T := (Two.new w sl sh tl th 58).kept B2
  clear B2
  cases ho : okS sl sh
  · obtain ⟨⟨c0, c1, f0, f1⟩, ⟨d0, d1, g0, g1⟩, ⟨e0, e1, i0, i1⟩⟩ := T
    go_wp2
    refine bodyPost_ret (v := .tuple #[.agg #[.int .i64 0, .int .i64 0], .bool false]) (by simp [results, Try.results60, go_sem, *]) rfl ⟨by rw [div_no (both_no1 ho)]; rfl, ?_⟩
    exact below_set2 B (by omega) _ _
  · obtain ⟨d0, d1, g0, g1⟩ := T.t
    go_wp2_with fail
    refine (sSpanOk_any tl th _).mono ?_
    rintro e w3 ⟨rfl, B3⟩
    replace B := below1 B B3
    replace T := T.kept B3
    clear B3 d0 d1 g0 g1
    obtain ⟨⟨c0, c1, f0, f1⟩, ⟨d0, d1, g0, g1⟩, R⟩ := T
    cases hp : okS tl th
    · obtain ⟨e0, e1, i0, i1⟩ := R
      go_wp2
      refine bodyPost_ret (v := .tuple #[.agg #[.int .i64 0, .int .i64 0], .bool false]) (by simp [results, Try.results60, go_sem, *]) rfl ⟨by rw [div_no (both_no2 hp)]; rfl, ?_⟩
      exact below_set2 B (by omega) _ _
    · have hb : bothB sl sh tl th = true := both_mk ho hp
      obtain ⟨o1, o2, o3⟩ := okS_of ho
      obtain ⟨p1, p2, p3⟩ := okS_of hp
      cases ha : apartB tl th
      · obtain ⟨z1, z2⟩ := apart_no ha
        obtain ⟨e0, e1, i0, i1⟩ := R
        go_wp2
        refine bodyPost_ret (v := .tuple #[.agg #[.int .i64 0, .int .i64 0], .bool false]) (by simp [results, Try.results60, go_sem, *]) rfl ⟨by rw [div_no2 ha]; rfl, ?_⟩
        exact below_set2 B (by omega) _ _
      · have ap := apart_of ha
        rcases ap with ap | ap
        all_goals
          go_wp2_with fail
          refine (l2Over_any sl tl _ (by omega) (by omega) (by omega) (by omega) (by omega)).mono ?_
          rintro e w' ⟨rfl, rfl⟩
          go_wp2_with fail
          refine (l2Over_any sl th _ (by omega) (by omega) (by omega) (by omega) (by omega)).mono ?_
          rintro e w' ⟨rfl, rfl⟩
          go_wp2_with fail
          refine (l2Over_any sh tl _ (by omega) (by omega) (by omega) (by omega) (by omega)).mono ?_
          rintro e w' ⟨rfl, rfl⟩
          go_wp2_with fail
          refine (l2Over_any sh th _ (by omega) (by omega) (by omega) (by omega) (by omega)).mono ?_
          rintro e w' ⟨rfl, rfl⟩
          go_wp2_with fail
          refine (l2Four_any _ _ _ _ _).mono ?_
          rintro e w' ⟨rfl, rfl⟩
          go_wp2_with fail
          refine (l2Four_any _ _ _ _ _).mono ?_
          rintro e w' ⟨rfl, rfl⟩
          rw [divLo_four, divHi_four]
          go_wp2_with fail
          refine (l2Fit_any _ _ _).mono ?_
          rintro e w4 ⟨rfl, B4⟩
          obtain ⟨e0, e1, i0, i1⟩ := R.kept B4
          replace B := below1 B B4
          rw [div_yes hb ha]
          clear B4
          go_wp2
          refine bodyPost_ret (v := .tuple #[.agg #[.int .i64 (sel (divB sl sh tl th) (divLo sl sh tl th)), .int .i64 (sel (divB sl sh tl th) (divHi sl sh tl th))], .bool (divB sl sh tl th)]) (by simp [results, Try.results60, go_sem, *]) rfl ⟨rfl, ?_⟩
          exact below_set2 B (by omega) _ _


end SW
end Go.Proofs.Ytlkompbigpbefab
