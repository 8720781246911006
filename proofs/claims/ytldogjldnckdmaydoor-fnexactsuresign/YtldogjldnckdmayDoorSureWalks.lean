/-
  What the functions of chapter 3 answer: SureRound, SureLess, SureSign, the specification's and the program's, at every argument.
-/
import Derived.Test.YtldogjldnckdmayDoorRows
import Derived.Test.YtldogjldnckdmayDoorNumWalks
import Derived.Test.YtldogjldnckdmayDoorSpanFits
import Derived.Test.YtldogjldnckdmayDoorSpanWalks
import Derived.Test.YtldogjldnckdmayDoorSureMath
import Derived.Test.YtldogjldnckdmayDoorKeptStep
import Derived.WalkKit
import Derived.Below
import Derived.Lib.QuietBelow
namespace Go.Proofs.YtldogjldnckdmayDoor
open Go.RowKit Go.Sort
set_option linter.unusedVariables false
namespace SW
open SM SR

theorem ret_ib {a b : Int} {c d : Bool} (h : a = b) (g : c = d) : Ending.returned (.tuple #[.int .i64 a, .bool c]) = .returned (.tuple #[.int .i64 b, .bool d]) := by rw [h, g]

theorem sureOf_clo_eq (l h : Int) (x : Int) (rb pb : Nat) (w : World) (c1 : ∀ w', Below w.heap.size w w' → Calls Tryd.prog 20 #[.int .i64 l, .pointer (some ⟨rb, 0, none⟩), .pointer (some ⟨pb, 0, none⟩)] w' fun e w'' => e = .returned (.int .i64 x) ∧ Below w'.heap.size w' w'') (c2 : ∀ w', Below w.heap.size w w' → Calls Tryd.prog 20 #[.int .i64 h, .pointer (some ⟨rb, 0, none⟩), .pointer (some ⟨pb, 0, none⟩)] w' fun e w'' => e = .returned (.int .i64 x) ∧ Below w'.heap.size w' w'') :
    Calls Tryd.prog 19 #[spV l h, .func (.func 20) #[] #[.pointer (some ⟨rb, 0, none⟩), .pointer (some ⟨pb, 0, none⟩)]] w fun e w' => e = .returned (.tuple #[.int .i64 x, .bool true]) ∧ Below w.heap.size w w' := by
  generalize hw1 : w.alloc (.cells #[.int .i64 l, .int .i64 h] 26) = w1
  have B1 : Below w.heap.size w w1 := hw1 ▸ below_new w _
  have X : Box w1 w.heap.size l h := hw1 ▸ Box.new w l h _
  have k0 := cell_regrown X.c0
  have k1 := cell_regrown X.c1
  have q1 : ∀ d os, Calls Tryd.prog 20 #[.int .i64 l, .pointer (some ⟨rb, 0, none⟩), .pointer (some ⟨pb, 0, none⟩)] (grow (redrawn w1 d) os) fun e w'' => e = .returned (.int .i64 x) ∧ ∃ p : Regrown, w'' = grow (redrawn w1 p.d) p.os := fun d os => Calls.regrown_of (c1 _ (below1 B1 (below_regrown w1 d os)))
  have q2 : ∀ d os, Calls Tryd.prog 20 #[.int .i64 h, .pointer (some ⟨rb, 0, none⟩), .pointer (some ⟨pb, 0, none⟩)] (grow (redrawn w1 d) os) fun e w'' => e = .returned (.int .i64 x) ∧ ∃ p : Regrown, w'' = grow (redrawn w1 p.d) p.os := fun d os => Calls.regrown_of (c2 _ (below1 B1 (below_regrown w1 d os)))
  go_enter Tryd.func19, Tryd.ntmps19
  go_wp2_with fail
  refine KS.region (by kernel_rfl) (by kernel_rfl) ?_
  repeat (refine KS.step (fun K hK => ?_); go_simp; refine hK _ ?_; clear hK K)
  refine KS.step (fun K hK => ?_)
  go_simp
  apply Exists.intro
  refine ⟨fun _ => ?_, hK _ ?_⟩
  exact q1 _ _
  clear hK K
  repeat (refine KS.step (fun K hK => ?_); go_simp; refine hK _ ?_; clear hK K)
  refine KS.step (fun K hK => ?_)
  go_simp
  apply Exists.intro
  refine ⟨fun _ => ?_, hK _ ?_⟩
  exact q2 _ _
  clear hK K
  repeat (refine KS.step (fun K hK => ?_); go_simp; refine hK _ ?_; clear hK K)
  refine KS.nil ?_
  rintro _ ⟨p', rfl⟩
  go_wp2
  go_ret2
  exact ⟨rfl, below1 B1 (below_regrown _ _ _)⟩
theorem sureOf_clo_ne (l h : Int) (x y : Int) (rb pb : Nat) (w : World) (hn : (x != y) = true) (c1 : ∀ w', Below w.heap.size w w' → Calls Tryd.prog 20 #[.int .i64 l, .pointer (some ⟨rb, 0, none⟩), .pointer (some ⟨pb, 0, none⟩)] w' fun e w'' => e = .returned (.int .i64 x) ∧ Below w'.heap.size w' w'') (c2 : ∀ w', Below w.heap.size w w' → Calls Tryd.prog 20 #[.int .i64 h, .pointer (some ⟨rb, 0, none⟩), .pointer (some ⟨pb, 0, none⟩)] w' fun e w'' => e = .returned (.int .i64 y) ∧ Below w'.heap.size w' w'') :
    Calls Tryd.prog 19 #[spV l h, .func (.func 20) #[] #[.pointer (some ⟨rb, 0, none⟩), .pointer (some ⟨pb, 0, none⟩)]] w fun e w' => e = .returned (.tuple #[.int .i64 0, .bool false]) ∧ Below w.heap.size w w' := by
  generalize hw1 : w.alloc (.cells #[.int .i64 l, .int .i64 h] 26) = w1
  have B1 : Below w.heap.size w w1 := hw1 ▸ below_new w _
  have X : Box w1 w.heap.size l h := hw1 ▸ Box.new w l h _
  have k0 := cell_regrown X.c0
  have k1 := cell_regrown X.c1
  have q1 : ∀ d os, Calls Tryd.prog 20 #[.int .i64 l, .pointer (some ⟨rb, 0, none⟩), .pointer (some ⟨pb, 0, none⟩)] (grow (redrawn w1 d) os) fun e w'' => e = .returned (.int .i64 x) ∧ ∃ p : Regrown, w'' = grow (redrawn w1 p.d) p.os := fun d os => Calls.regrown_of (c1 _ (below1 B1 (below_regrown w1 d os)))
  have q2 : ∀ d os, Calls Tryd.prog 20 #[.int .i64 h, .pointer (some ⟨rb, 0, none⟩), .pointer (some ⟨pb, 0, none⟩)] (grow (redrawn w1 d) os) fun e w'' => e = .returned (.int .i64 y) ∧ ∃ p : Regrown, w'' = grow (redrawn w1 p.d) p.os := fun d os => Calls.regrown_of (c2 _ (below1 B1 (below_regrown w1 d os)))
  go_enter Tryd.func19, Tryd.ntmps19
  go_wp2_with fail
  refine KS.region (by kernel_rfl) (by kernel_rfl) ?_
  repeat (refine KS.step (fun K hK => ?_); go_simp; refine hK _ ?_; clear hK K)
  refine KS.step (fun K hK => ?_)
  go_simp
  apply Exists.intro
  refine ⟨fun _ => ?_, hK _ ?_⟩
  exact q1 _ _
  clear hK K
  repeat (refine KS.step (fun K hK => ?_); go_simp; refine hK _ ?_; clear hK K)
  refine KS.step (fun K hK => ?_)
  go_simp
  apply Exists.intro
  refine ⟨fun _ => ?_, hK _ ?_⟩
  exact q2 _ _
  clear hK K
  repeat (refine KS.step (fun K hK => ?_); go_simp; refine hK _ ?_; clear hK K)
  refine KS.nil ?_
  rintro _ ⟨p', rfl⟩
  go_wp2
  go_ret2
  exact ⟨rfl, below1 B1 (below_regrown _ _ _)⟩

theorem clo_1 (x p : Int) (rb pb : Nat) (w : World) (hr : w.cell? ⟨rb, 0, none⟩ = some (.func (.func 31) #[] #[])) (hp : w.cell? ⟨pb, 0, none⟩ = some (.int .i64 p)) (h1 : -1152921504606846976 ≤ x) (h2 : x ≤ 1152921504606846976) (h3 : 1 ≤ p) (h4 : p ≤ 1152921504606846976) :
    Calls Tryd.prog 20 #[.int .i64 x, .pointer (some ⟨rb, 0, none⟩), .pointer (some ⟨pb, 0, none⟩)] w fun e w' => e = .returned (.int .i64 (NM.rnd x p 1)) ∧ Below w.heap.size w w' := by
  go_enter Tryd.func20, Tryd.ntmps20
  go_wp2_with fail
  refine (NW.roundDown_any _ _ _ h1 h2 h3 h4).mono ?_
  rintro e w' ⟨rfl, rfl⟩
  go_wp2
  go_ret
  exact ⟨NW.ret_int (NM.rnd1 x p).symm, Below.refl _ _⟩
theorem clo_2 (x p : Int) (rb pb : Nat) (w : World) (hr : w.cell? ⟨rb, 0, none⟩ = some (.func (.func 32) #[] #[])) (hp : w.cell? ⟨pb, 0, none⟩ = some (.int .i64 p)) (h1 : -1152921504606846976 ≤ x) (h2 : x ≤ 1152921504606846976) (h3 : 1 ≤ p) (h4 : p ≤ 1152921504606846976) :
    Calls Tryd.prog 20 #[.int .i64 x, .pointer (some ⟨rb, 0, none⟩), .pointer (some ⟨pb, 0, none⟩)] w fun e w' => e = .returned (.int .i64 (NM.rnd x p 2)) ∧ Below w.heap.size w w' := by
  go_enter Tryd.func20, Tryd.ntmps20
  go_wp2_with fail
  refine (NW.roundUp_any _ _ _ h1 h2 h3 h4).mono ?_
  rintro e w' ⟨rfl, rfl⟩
  go_wp2
  go_ret
  exact ⟨NW.ret_int (NM.rnd2 x p).symm, Below.refl _ _⟩
theorem clo_3 (x p : Int) (rb pb : Nat) (w : World) (hr : w.cell? ⟨rb, 0, none⟩ = some (.func (.func 33) #[] #[])) (hp : w.cell? ⟨pb, 0, none⟩ = some (.int .i64 p)) (h1 : -1152921504606846976 ≤ x) (h2 : x ≤ 1152921504606846976) (h3 : 1 ≤ p) (h4 : p ≤ 1152921504606846976) :
    Calls Tryd.prog 20 #[.int .i64 x, .pointer (some ⟨rb, 0, none⟩), .pointer (some ⟨pb, 0, none⟩)] w fun e w' => e = .returned (.int .i64 (NM.rnd x p 3)) ∧ Below w.heap.size w w' := by
  go_enter Tryd.func20, Tryd.ntmps20
  go_wp2_with fail
  refine (NW.roundZero_any _ _ _ h1 h2 h3 h4).mono ?_
  rintro e w' ⟨rfl, rfl⟩
  go_wp2
  go_ret
  exact ⟨NW.ret_int (NM.rnd3 x p).symm, Below.refl _ _⟩
theorem clo_4 (x p : Int) (rb pb : Nat) (w : World) (hr : w.cell? ⟨rb, 0, none⟩ = some (.func (.func 34) #[] #[])) (hp : w.cell? ⟨pb, 0, none⟩ = some (.int .i64 p)) (h1 : -1152921504606846976 ≤ x) (h2 : x ≤ 1152921504606846976) (h3 : 1 ≤ p) (h4 : p ≤ 1152921504606846976) :
    Calls Tryd.prog 20 #[.int .i64 x, .pointer (some ⟨rb, 0, none⟩), .pointer (some ⟨pb, 0, none⟩)] w fun e w' => e = .returned (.int .i64 (NM.rnd x p 4)) ∧ Below w.heap.size w w' := by
  go_enter Tryd.func20, Tryd.ntmps20
  go_wp2_with fail
  refine (NW.roundEven_any _ _ _ h1 h2 h3 h4).mono ?_
  rintro e w' ⟨rfl, rfl⟩
  go_wp2
  go_ret
  exact ⟨NW.ret_int (NM.rnd4 x p).symm, Below.refl _ _⟩

theorem sSureRound_any (l h p y : Int) (w : World) :
    Calls Tryd.prog 6 #[spV l h, .int .i64 p, .int .i64 y] w fun e w' => e = .returned (.tuple #[.int .i64 (sureV l h p y), .bool (sureB l h p y)]) ∧ Below w.heap.size w w' := by
  go_enter Tryd.func6, Tryd.ntmps6
  go_wp2_with fail
  refine (sSpanOk_any l h _).mono ?_
  rintro e w2 ⟨rfl, B2⟩
  have B := below1 (below_new w _) B2
  obtain ⟨c0, c1, f0, f1⟩ := (Box.new w l h 26).kept B2
  clear B2
  cases ho : okS l h
  · have hn := sure_no (may_no1 (p := p) (y := y) ho)
    go_wp2
    go_ret2
    exact ⟨ret_ib (sureV_no hn).symm hn.symm, B⟩
  · go_wp2_with fail
    refine (NW.l6In_any _ _ _ _).mono ?_
    rintro e w' ⟨rfl, rfl⟩
    cases hp : NM.inB p 1 1000000000
    · have hn := sure_no (may_no2 (l := l) (h := h) (y := y) hp)
      go_wp2
      go_ret2
      exact ⟨ret_ib (sureV_no hn).symm hn.symm, B⟩
    · go_wp2_with fail
      refine (NW.l6In_any _ _ _ _).mono ?_
      rintro e w' ⟨rfl, rfl⟩
      cases hy : NM.wayB y
      · have hy' : NM.inB y 1 4 = false := hy
        have hn := sure_no (may_no3 (l := l) (h := h) (p := p) hy)
        go_wp2
        go_ret2
        exact ⟨ret_ib (sureV_no hn).symm hn.symm, B⟩
      · have hy' : NM.inB y 1 4 = true := hy
        have hm := may_mk ho hp hy
        obtain ⟨o1, o2, o3⟩ := okS_of ho
        obtain ⟨p1, p2⟩ := in_of hp
        go_wp2_with fail
        refine (NW.l1Round_any l p y _ (by omega) (by omega) (by omega) (by omega) hy).mono ?_
        rintro e w' ⟨rfl, rfl⟩
        go_wp2_with fail
        refine (NW.l1Round_any h p y _ (by omega) (by omega) (by omega) (by omega) hy).mono ?_
        rintro e w' ⟨rfl, rfl⟩
        by_cases e : NM.rnd l p y = NM.rnd h p y
        · have hn := sure_mk hm e
          have hv := sureV_of hn
          have H : Hid (NM.rnd h p y = sureV l h p y) := e.symm.trans hv.symm
          clear hv
          rw [← e]
          go_wp2
          go_ret2
          exact ⟨ret_ib H.out hn.symm, B⟩
        · have hn := sure_ne e
          have e1 : (NM.rnd l p y != NM.rnd h p y) = true := by simpa using e
          go_wp2
          go_ret2
          exact ⟨ret_ib (sureV_no hn).symm hn.symm, B⟩

theorem sureRound_1 (l h p : Int) (a : Addr) (w : World) (hs : Sn a w) (ho : okS l h = true) (hp : NM.inB p 1 1000000000 = true) :
    Calls Tryd.prog 8 #[spV l h, .int .i64 p, .int .i64 1] w fun e w' => e = .returned (.tuple #[.int .i64 (sureV l h p 1), .bool (sureB l h p 1)]) ∧ Below w.heap.size w w' := by
  obtain ⟨o1, o2, o3⟩ := okS_of ho
  obtain ⟨p1, p2⟩ := in_of hp
  have hm := may_mk (y := 1) ho hp rfl
  have hy : NM.wayB 1 = true := rfl
  go_enter Tryd.func8, Tryd.ntmps8
  go_wp2_with fail
  refine (spanOk_any l h a _ ((hs.alloc _).alloc _)).mono ?_
  rintro e w2 ⟨rfl, B2⟩
  have B := below1 (below_new2 w _ _) B2
  have S := ((Box.new w l h 26).alloc (.cells #[.int .i64 p] 3)).kept B2
  have hc : w2.cell? ⟨w.heap.size + 1, 0, none⟩ = some (.int .i64 p) := by rw [B2.cell (by simp)]; simp [go_sem]
  clear B2
  have ⟨c0, c1, f0, f1⟩ := S
  go_wp2_with fail
  refine (NW.isWay_any _ _).mono ?_
  rintro e w' ⟨rfl, rfl⟩
  go_wp2_with fail
  refine (NW.roundingOf_1 _).mono ?_
  rintro e w3 ⟨rfl, B3⟩
  clear c0 c1 f0 f1
  have hlt := cell_lt hc
  replace hc := (B3.cell hlt).trans hc
  replace S := (S.kept B3).alloc (.cells #[.func (.func 31) #[] #[]] 38)
  replace B := below1 (below1 B B3) (below_new w3 (.cells #[.func (.func 31) #[] #[]] 38))
  clear B3
  have hr : (w3.alloc (.cells #[.func (.func 31) #[] #[]] 38)).cell? ⟨w3.heap.size, 0, none⟩ = some (.func (.func 31) #[] #[]) := by simp [go_sem]
  have hlt := cell_lt hc
  replace hc : (w3.alloc (.cells #[.func (.func 31) #[] #[]] 38)).cell? ⟨w.heap.size + 1, 0, none⟩ = some (.int .i64 p) := ((below_new w3 _).cell hlt).trans hc
  have q1 : ∀ w', Below (w3.alloc (.cells #[.func (.func 31) #[] #[]] 38)).heap.size (w3.alloc (.cells #[.func (.func 31) #[] #[]] 38)) w' → Calls Tryd.prog 20 #[.int .i64 l, .pointer (some ⟨w3.heap.size, 0, none⟩), .pointer (some ⟨w.heap.size + 1, 0, none⟩)] w' fun e w'' => e = .returned (.int .i64 (NM.rnd l p 1)) ∧ Below w'.heap.size w' w'' :=
    fun w' b => clo_1 l p _ _ w' ((b.cell (cell_lt hr)).trans hr) ((b.cell (cell_lt hc)).trans hc) (by omega) (by omega) (by omega) (by omega)
  have q2 : ∀ w', Below (w3.alloc (.cells #[.func (.func 31) #[] #[]] 38)).heap.size (w3.alloc (.cells #[.func (.func 31) #[] #[]] 38)) w' → Calls Tryd.prog 20 #[.int .i64 h, .pointer (some ⟨w3.heap.size, 0, none⟩), .pointer (some ⟨w.heap.size + 1, 0, none⟩)] w' fun e w'' => e = .returned (.int .i64 (NM.rnd h p 1)) ∧ Below w'.heap.size w' w'' :=
    fun w' b => clo_1 h p _ _ w' ((b.cell (cell_lt hr)).trans hr) ((b.cell (cell_lt hc)).trans hc) (by omega) (by omega) (by omega) (by omega)
  have ⟨c0, c1, f0, f1⟩ := S
  by_cases e : NM.rnd l p 1 = NM.rnd h p 1
  · have hn := sure_mk hm e
    have H : Hid (NM.rnd h p 1 = sureV l h p 1) := e.symm.trans (sureV_of hn).symm
    rw [← e] at q2
    go_wp2_with fail
    refine (sureOf_clo_eq l h _ _ _ _ q1 q2).mono ?_
    rintro e w5 ⟨rfl, B5⟩
    replace B := below1 B B5
    clear q1 q2
    go_wp2
    go_ret2
    exact ⟨ret_ib H.out hn.symm, B⟩
  · have hn := sure_ne e
    have e1 : (NM.rnd l p 1 != NM.rnd h p 1) = true := by simpa using e
    go_wp2_with fail
    refine (sureOf_clo_ne l h _ _ _ _ _ e1 q1 q2).mono ?_
    rintro e w5 ⟨rfl, B5⟩
    replace B := below1 B B5
    clear q1 q2
    go_wp2
    go_ret2
    exact ⟨ret_ib (sureV_no hn).symm hn.symm, B⟩
theorem sureRound_2 (l h p : Int) (a : Addr) (w : World) (hs : Sn a w) (ho : okS l h = true) (hp : NM.inB p 1 1000000000 = true) :
    Calls Tryd.prog 8 #[spV l h, .int .i64 p, .int .i64 2] w fun e w' => e = .returned (.tuple #[.int .i64 (sureV l h p 2), .bool (sureB l h p 2)]) ∧ Below w.heap.size w w' := by
  obtain ⟨o1, o2, o3⟩ := okS_of ho
  obtain ⟨p1, p2⟩ := in_of hp
  have hm := may_mk (y := 2) ho hp rfl
  have hy : NM.wayB 2 = true := rfl
  go_enter Tryd.func8, Tryd.ntmps8
  go_wp2_with fail
  refine (spanOk_any l h a _ ((hs.alloc _).alloc _)).mono ?_
  rintro e w2 ⟨rfl, B2⟩
  have B := below1 (below_new2 w _ _) B2
  have S := ((Box.new w l h 26).alloc (.cells #[.int .i64 p] 3)).kept B2
  have hc : w2.cell? ⟨w.heap.size + 1, 0, none⟩ = some (.int .i64 p) := by rw [B2.cell (by simp)]; simp [go_sem]
  clear B2
  have ⟨c0, c1, f0, f1⟩ := S
  go_wp2_with fail
  refine (NW.isWay_any _ _).mono ?_
  rintro e w' ⟨rfl, rfl⟩
  go_wp2_with fail
  refine (NW.roundingOf_2 _).mono ?_
  rintro e w3 ⟨rfl, B3⟩
  clear c0 c1 f0 f1
  have hlt := cell_lt hc
  replace hc := (B3.cell hlt).trans hc
  replace S := (S.kept B3).alloc (.cells #[.func (.func 32) #[] #[]] 38)
  replace B := below1 (below1 B B3) (below_new w3 (.cells #[.func (.func 32) #[] #[]] 38))
  clear B3
  have hr : (w3.alloc (.cells #[.func (.func 32) #[] #[]] 38)).cell? ⟨w3.heap.size, 0, none⟩ = some (.func (.func 32) #[] #[]) := by simp [go_sem]
  have hlt := cell_lt hc
  replace hc : (w3.alloc (.cells #[.func (.func 32) #[] #[]] 38)).cell? ⟨w.heap.size + 1, 0, none⟩ = some (.int .i64 p) := ((below_new w3 _).cell hlt).trans hc
  have q1 : ∀ w', Below (w3.alloc (.cells #[.func (.func 32) #[] #[]] 38)).heap.size (w3.alloc (.cells #[.func (.func 32) #[] #[]] 38)) w' → Calls Tryd.prog 20 #[.int .i64 l, .pointer (some ⟨w3.heap.size, 0, none⟩), .pointer (some ⟨w.heap.size + 1, 0, none⟩)] w' fun e w'' => e = .returned (.int .i64 (NM.rnd l p 2)) ∧ Below w'.heap.size w' w'' :=
    fun w' b => clo_2 l p _ _ w' ((b.cell (cell_lt hr)).trans hr) ((b.cell (cell_lt hc)).trans hc) (by omega) (by omega) (by omega) (by omega)
  have q2 : ∀ w', Below (w3.alloc (.cells #[.func (.func 32) #[] #[]] 38)).heap.size (w3.alloc (.cells #[.func (.func 32) #[] #[]] 38)) w' → Calls Tryd.prog 20 #[.int .i64 h, .pointer (some ⟨w3.heap.size, 0, none⟩), .pointer (some ⟨w.heap.size + 1, 0, none⟩)] w' fun e w'' => e = .returned (.int .i64 (NM.rnd h p 2)) ∧ Below w'.heap.size w' w'' :=
    fun w' b => clo_2 h p _ _ w' ((b.cell (cell_lt hr)).trans hr) ((b.cell (cell_lt hc)).trans hc) (by omega) (by omega) (by omega) (by omega)
  have ⟨c0, c1, f0, f1⟩ := S
  by_cases e : NM.rnd l p 2 = NM.rnd h p 2
  · have hn := sure_mk hm e
    have H : Hid (NM.rnd h p 2 = sureV l h p 2) := e.symm.trans (sureV_of hn).symm
    rw [← e] at q2
    go_wp2_with fail
    refine (sureOf_clo_eq l h _ _ _ _ q1 q2).mono ?_
    rintro e w5 ⟨rfl, B5⟩
    replace B := below1 B B5
    clear q1 q2
    go_wp2
    go_ret2
    exact ⟨ret_ib H.out hn.symm, B⟩
  · have hn := sure_ne e
    have e1 : (NM.rnd l p 2 != NM.rnd h p 2) = true := by simpa using e
    go_wp2_with fail
    refine (sureOf_clo_ne l h _ _ _ _ _ e1 q1 q2).mono ?_
    rintro e w5 ⟨rfl, B5⟩
    replace B := below1 B B5
    clear q1 q2
    go_wp2
    go_ret2
    exact ⟨ret_ib (sureV_no hn).symm hn.symm, B⟩
theorem sureRound_3 (l h p : Int) (a : Addr) (w : World) (hs : Sn a w) (ho : okS l h = true) (hp : NM.inB p 1 1000000000 = true) :
    Calls Tryd.prog 8 #[spV l h, .int .i64 p, .int .i64 3] w fun e w' => e = .returned (.tuple #[.int .i64 (sureV l h p 3), .bool (sureB l h p 3)]) ∧ Below w.heap.size w w' := by
  obtain ⟨o1, o2, o3⟩ := okS_of ho
  obtain ⟨p1, p2⟩ := in_of hp
  have hm := may_mk (y := 3) ho hp rfl
  have hy : NM.wayB 3 = true := rfl
  go_enter Tryd.func8, Tryd.ntmps8
  go_wp2_with fail
  refine (spanOk_any l h a _ ((hs.alloc _).alloc _)).mono ?_
  rintro e w2 ⟨rfl, B2⟩
  have B := below1 (below_new2 w _ _) B2
  have S := ((Box.new w l h 26).alloc (.cells #[.int .i64 p] 3)).kept B2
  have hc : w2.cell? ⟨w.heap.size + 1, 0, none⟩ = some (.int .i64 p) := by rw [B2.cell (by simp)]; simp [go_sem]
  clear B2
  have ⟨c0, c1, f0, f1⟩ := S
  go_wp2_with fail
  refine (NW.isWay_any _ _).mono ?_
  rintro e w' ⟨rfl, rfl⟩
  go_wp2_with fail
  refine (NW.roundingOf_3 _).mono ?_
  rintro e w3 ⟨rfl, B3⟩
  clear c0 c1 f0 f1
  have hlt := cell_lt hc
  replace hc := (B3.cell hlt).trans hc
  replace S := (S.kept B3).alloc (.cells #[.func (.func 33) #[] #[]] 38)
  replace B := below1 (below1 B B3) (below_new w3 (.cells #[.func (.func 33) #[] #[]] 38))
  clear B3
  have hr : (w3.alloc (.cells #[.func (.func 33) #[] #[]] 38)).cell? ⟨w3.heap.size, 0, none⟩ = some (.func (.func 33) #[] #[]) := by simp [go_sem]
  have hlt := cell_lt hc
  replace hc : (w3.alloc (.cells #[.func (.func 33) #[] #[]] 38)).cell? ⟨w.heap.size + 1, 0, none⟩ = some (.int .i64 p) := ((below_new w3 _).cell hlt).trans hc
  have q1 : ∀ w', Below (w3.alloc (.cells #[.func (.func 33) #[] #[]] 38)).heap.size (w3.alloc (.cells #[.func (.func 33) #[] #[]] 38)) w' → Calls Tryd.prog 20 #[.int .i64 l, .pointer (some ⟨w3.heap.size, 0, none⟩), .pointer (some ⟨w.heap.size + 1, 0, none⟩)] w' fun e w'' => e = .returned (.int .i64 (NM.rnd l p 3)) ∧ Below w'.heap.size w' w'' :=
    fun w' b => clo_3 l p _ _ w' ((b.cell (cell_lt hr)).trans hr) ((b.cell (cell_lt hc)).trans hc) (by omega) (by omega) (by omega) (by omega)
  have q2 : ∀ w', Below (w3.alloc (.cells #[.func (.func 33) #[] #[]] 38)).heap.size (w3.alloc (.cells #[.func (.func 33) #[] #[]] 38)) w' → Calls Tryd.prog 20 #[.int .i64 h, .pointer (some ⟨w3.heap.size, 0, none⟩), .pointer (some ⟨w.heap.size + 1, 0, none⟩)] w' fun e w'' => e = .returned (.int .i64 (NM.rnd h p 3)) ∧ Below w'.heap.size w' w'' :=
    fun w' b => clo_3 h p _ _ w' ((b.cell (cell_lt hr)).trans hr) ((b.cell (cell_lt hc)).trans hc) (by omega) (by omega) (by omega) (by omega)
  have ⟨c0, c1, f0, f1⟩ := S
  by_cases e : NM.rnd l p 3 = NM.rnd h p 3
  · have hn := sure_mk hm e
    have H : Hid (NM.rnd h p 3 = sureV l h p 3) := e.symm.trans (sureV_of hn).symm
    rw [← e] at q2
    go_wp2_with fail
    refine (sureOf_clo_eq l h _ _ _ _ q1 q2).mono ?_
    rintro e w5 ⟨rfl, B5⟩
    replace B := below1 B B5
    clear q1 q2
    go_wp2
    go_ret2
    exact ⟨ret_ib H.out hn.symm, B⟩
  · have hn := sure_ne e
    have e1 : (NM.rnd l p 3 != NM.rnd h p 3) = true := by simpa using e
    go_wp2_with fail
    refine (sureOf_clo_ne l h _ _ _ _ _ e1 q1 q2).mono ?_
    rintro e w5 ⟨rfl, B5⟩
    replace B := below1 B B5
    clear q1 q2
    go_wp2
    go_ret2
    exact ⟨ret_ib (sureV_no hn).symm hn.symm, B⟩
theorem sureRound_4 (l h p : Int) (a : Addr) (w : World) (hs : Sn a w) (ho : okS l h = true) (hp : NM.inB p 1 1000000000 = true) :
    Calls Tryd.prog 8 #[spV l h, .int .i64 p, .int .i64 4] w fun e w' => e = .returned (.tuple #[.int .i64 (sureV l h p 4), .bool (sureB l h p 4)]) ∧ Below w.heap.size w w' := by
  obtain ⟨o1, o2, o3⟩ := okS_of ho
  obtain ⟨p1, p2⟩ := in_of hp
  have hm := may_mk (y := 4) ho hp rfl
  have hy : NM.wayB 4 = true := rfl
  go_enter Tryd.func8, Tryd.ntmps8
  go_wp2_with fail
  refine (spanOk_any l h a _ ((hs.alloc _).alloc _)).mono ?_
  rintro e w2 ⟨rfl, B2⟩
  have B := below1 (below_new2 w _ _) B2
  have S := ((Box.new w l h 26).alloc (.cells #[.int .i64 p] 3)).kept B2
  have hc : w2.cell? ⟨w.heap.size + 1, 0, none⟩ = some (.int .i64 p) := by rw [B2.cell (by simp)]; simp [go_sem]
  clear B2
  have ⟨c0, c1, f0, f1⟩ := S
  go_wp2_with fail
  refine (NW.isWay_any _ _).mono ?_
  rintro e w' ⟨rfl, rfl⟩
  go_wp2_with fail
  refine (NW.roundingOf_4 _).mono ?_
  rintro e w3 ⟨rfl, B3⟩
  clear c0 c1 f0 f1
  have hlt := cell_lt hc
  replace hc := (B3.cell hlt).trans hc
  replace S := (S.kept B3).alloc (.cells #[.func (.func 34) #[] #[]] 38)
  replace B := below1 (below1 B B3) (below_new w3 (.cells #[.func (.func 34) #[] #[]] 38))
  clear B3
  have hr : (w3.alloc (.cells #[.func (.func 34) #[] #[]] 38)).cell? ⟨w3.heap.size, 0, none⟩ = some (.func (.func 34) #[] #[]) := by simp [go_sem]
  have hlt := cell_lt hc
  replace hc : (w3.alloc (.cells #[.func (.func 34) #[] #[]] 38)).cell? ⟨w.heap.size + 1, 0, none⟩ = some (.int .i64 p) := ((below_new w3 _).cell hlt).trans hc
  have q1 : ∀ w', Below (w3.alloc (.cells #[.func (.func 34) #[] #[]] 38)).heap.size (w3.alloc (.cells #[.func (.func 34) #[] #[]] 38)) w' → Calls Tryd.prog 20 #[.int .i64 l, .pointer (some ⟨w3.heap.size, 0, none⟩), .pointer (some ⟨w.heap.size + 1, 0, none⟩)] w' fun e w'' => e = .returned (.int .i64 (NM.rnd l p 4)) ∧ Below w'.heap.size w' w'' :=
    fun w' b => clo_4 l p _ _ w' ((b.cell (cell_lt hr)).trans hr) ((b.cell (cell_lt hc)).trans hc) (by omega) (by omega) (by omega) (by omega)
  have q2 : ∀ w', Below (w3.alloc (.cells #[.func (.func 34) #[] #[]] 38)).heap.size (w3.alloc (.cells #[.func (.func 34) #[] #[]] 38)) w' → Calls Tryd.prog 20 #[.int .i64 h, .pointer (some ⟨w3.heap.size, 0, none⟩), .pointer (some ⟨w.heap.size + 1, 0, none⟩)] w' fun e w'' => e = .returned (.int .i64 (NM.rnd h p 4)) ∧ Below w'.heap.size w' w'' :=
    fun w' b => clo_4 h p _ _ w' ((b.cell (cell_lt hr)).trans hr) ((b.cell (cell_lt hc)).trans hc) (by omega) (by omega) (by omega) (by omega)
  have ⟨c0, c1, f0, f1⟩ := S
  by_cases e : NM.rnd l p 4 = NM.rnd h p 4
  · have hn := sure_mk hm e
    have H : Hid (NM.rnd h p 4 = sureV l h p 4) := e.symm.trans (sureV_of hn).symm
    rw [← e] at q2
    go_wp2_with fail
    refine (sureOf_clo_eq l h _ _ _ _ q1 q2).mono ?_
    rintro e w5 ⟨rfl, B5⟩
    replace B := below1 B B5
    clear q1 q2
    go_wp2
    go_ret2
    exact ⟨ret_ib H.out hn.symm, B⟩
  · have hn := sure_ne e
    have e1 : (NM.rnd l p 4 != NM.rnd h p 4) = true := by simpa using e
    go_wp2_with fail
    refine (sureOf_clo_ne l h _ _ _ _ _ e1 q1 q2).mono ?_
    rintro e w5 ⟨rfl, B5⟩
    replace B := below1 B B5
    clear q1 q2
    go_wp2
    go_ret2
    exact ⟨ret_ib (sureV_no hn).symm hn.symm, B⟩
theorem sureRound_no (l h p y : Int) (a : Addr) (w : World) (hs : Sn a w) (hm : mayB l h p y = false) :
    Calls Tryd.prog 8 #[spV l h, .int .i64 p, .int .i64 y] w fun e w' => e = .returned (.tuple #[.int .i64 (sureV l h p y), .bool (sureB l h p y)]) ∧ Below w.heap.size w w' := by
  have hn := sure_no hm
  have H1 : Hid (0 = sureV l h p y) := (sureV_no hn).symm
  go_enter Tryd.func8, Tryd.ntmps8
  go_wp2_with fail
  refine (spanOk_any l h a _ ((hs.alloc _).alloc _)).mono ?_
  rintro e w2 ⟨rfl, B2⟩
  have B := below1 (below_new2 w _ _) B2
  have hc : w2.cell? ⟨w.heap.size + 1, 0, none⟩ = some (.int .i64 p) := by rw [B2.cell (by simp)]; simp [go_sem]
  clear B2
  cases ho : okS l h
  · go_wp2
    go_ret2
    exact ⟨ret_ib H1.out hn.symm, B⟩
  · by_cases p1 : p < 1
    · go_wp2
      go_ret2
      exact ⟨ret_ib H1.out hn.symm, B⟩
    · by_cases p2 : 1000000000 < p
      · go_wp2
        go_ret2
        exact ⟨ret_ib H1.out hn.symm, B⟩
      · have hy : NM.wayB y = false := by
          cases hy : NM.wayB y
          · rfl
          · rw [may_mk ho (in_mk (by omega) (by omega)) hy] at hm; cases hm
        go_wp2_with fail
        refine (NW.isWay_any _ _).mono ?_
        rintro e w' ⟨rfl, rfl⟩
        go_wp2
        go_ret2
        exact ⟨ret_ib H1.out hn.symm, B⟩
theorem sureRound_any (l h p y : Int) (a : Addr) (w : World) (hs : Sn a w) :
    Calls Tryd.prog 8 #[spV l h, .int .i64 p, .int .i64 y] w fun e w' => e = .returned (.tuple #[.int .i64 (sureV l h p y), .bool (sureB l h p y)]) ∧ Below w.heap.size w w' := by
  cases hm : mayB l h p y
  · exact sureRound_no l h p y a w hs hm
  · obtain ⟨ho, hp, hy⟩ := may_of hm
    rcases NM.way_cases hy with rfl | rfl | rfl | rfl
    · exact sureRound_1 l h p a w hs ho hp
    · exact sureRound_2 l h p a w hs ho hp
    · exact sureRound_3 l h p a w hs ho hp
    · exact sureRound_4 l h p a w hs ho hp

theorem isNaN_any (x : Int) (w : World) : Calls Tryd.prog 38 #[.int .i64 x] w fun e w' => e = .returned (.bool false) ∧ w' = w := by
  go_enter Tryd.func38, Tryd.ntmps38
  go_wp2
  go_ret
  exact ⟨NW.ret_bool (by simp), rfl⟩
theorem signOf_any (x : Int) (w : World) : Calls Tryd.prog 25 #[.int .i64 x] w fun e w' => e = .returned (.int .i64 (cmpV x)) ∧ Below w.heap.size w w' := by
  have C : Calls Tryd.prog 35 #[.int .i64 x, .int .i64 0] w fun e w' => e = .returned (.int .i64 (cmpV x)) ∧ w' = w := by
    rcases (show x < 0 ∨ x = 0 ∨ 0 < x by omega) with z | rfl | z
    · have H : Hid (-1 = cmpV x) := (cmp_lt z).symm
      go_enter Tryd.func35, Tryd.ntmps35
      go_wp2_with fail
      refine (isNaN_any _ _).mono ?_
      rintro e w' ⟨rfl, rfl⟩
      go_wp2_with fail
      refine (isNaN_any _ _).mono ?_
      rintro e w' ⟨rfl, rfl⟩
      go_wp2
      go_ret
      exact ⟨NW.ret_int H.out, rfl⟩
    · go_enter Tryd.func35, Tryd.ntmps35
      go_wp2_with fail
      refine (isNaN_any _ _).mono ?_
      rintro e w' ⟨rfl, rfl⟩
      go_wp2_with fail
      refine (isNaN_any _ _).mono ?_
      rintro e w' ⟨rfl, rfl⟩
      go_wp2
      go_ret
      exact ⟨rfl, rfl⟩
    · have H : Hid (1 = cmpV x) := (cmp_gt z).symm
      have z1 : ¬ x < 0 := by omega
      go_enter Tryd.func35, Tryd.ntmps35
      go_wp2_with fail
      refine (isNaN_any _ _).mono ?_
      rintro e w' ⟨rfl, rfl⟩
      go_wp2_with fail
      refine (isNaN_any _ _).mono ?_
      rintro e w' ⟨rfl, rfl⟩
      go_wp2
      go_ret
      exact ⟨NW.ret_int H.out, rfl⟩
  go_enter Tryd.func25, Tryd.ntmps25
  go_wp2_with fail
  refine C.mono ?_
  rintro e w' ⟨rfl, rfl⟩
  go_wp2
  go_ret
  exact ⟨rfl, Below.refl _ _⟩
theorem sureOf_sign_eq (l h : Int) (x : Int) (w : World) (c1 : ∀ w', Below w.heap.size w w' → Calls Tryd.prog 25 #[.int .i64 l] w' fun e w'' => e = .returned (.int .i64 x) ∧ Below w'.heap.size w' w'') (c2 : ∀ w', Below w.heap.size w w' → Calls Tryd.prog 25 #[.int .i64 h] w' fun e w'' => e = .returned (.int .i64 x) ∧ Below w'.heap.size w' w'') :
    Calls Tryd.prog 19 #[spV l h, .func (.func 25) #[] #[]] w fun e w' => e = .returned (.tuple #[.int .i64 x, .bool true]) ∧ Below w.heap.size w w' := by
  generalize hw1 : w.alloc (.cells #[.int .i64 l, .int .i64 h] 26) = w1
  have B1 : Below w.heap.size w w1 := hw1 ▸ below_new w _
  have X : Box w1 w.heap.size l h := hw1 ▸ Box.new w l h _
  have k0 := cell_regrown X.c0
  have k1 := cell_regrown X.c1
  have q1 : ∀ d os, Calls Tryd.prog 25 #[.int .i64 l] (grow (redrawn w1 d) os) fun e w'' => e = .returned (.int .i64 x) ∧ ∃ p : Regrown, w'' = grow (redrawn w1 p.d) p.os := fun d os => Calls.regrown_of (c1 _ (below1 B1 (below_regrown w1 d os)))
  have q2 : ∀ d os, Calls Tryd.prog 25 #[.int .i64 h] (grow (redrawn w1 d) os) fun e w'' => e = .returned (.int .i64 x) ∧ ∃ p : Regrown, w'' = grow (redrawn w1 p.d) p.os := fun d os => Calls.regrown_of (c2 _ (below1 B1 (below_regrown w1 d os)))
  go_enter Tryd.func19, Tryd.ntmps19
  go_wp2_with fail
  refine KS.region (by kernel_rfl) (by kernel_rfl) ?_
  repeat (refine KS.step (fun K hK => ?_); go_simp; refine hK _ ?_; clear hK K)
  refine KS.step (fun K hK => ?_)
  go_simp
  apply Exists.intro
  refine ⟨fun _ => ?_, hK _ ?_⟩
  exact q1 _ _
  clear hK K
  repeat (refine KS.step (fun K hK => ?_); go_simp; refine hK _ ?_; clear hK K)
  refine KS.step (fun K hK => ?_)
  go_simp
  apply Exists.intro
  refine ⟨fun _ => ?_, hK _ ?_⟩
  exact q2 _ _
  clear hK K
  repeat (refine KS.step (fun K hK => ?_); go_simp; refine hK _ ?_; clear hK K)
  refine KS.nil ?_
  rintro _ ⟨p', rfl⟩
  go_wp2
  go_ret2
  exact ⟨rfl, below1 B1 (below_regrown _ _ _)⟩
theorem sureOf_sign_ne (l h : Int) (x y : Int) (w : World) (hn : (x != y) = true) (c1 : ∀ w', Below w.heap.size w w' → Calls Tryd.prog 25 #[.int .i64 l] w' fun e w'' => e = .returned (.int .i64 x) ∧ Below w'.heap.size w' w'') (c2 : ∀ w', Below w.heap.size w w' → Calls Tryd.prog 25 #[.int .i64 h] w' fun e w'' => e = .returned (.int .i64 y) ∧ Below w'.heap.size w' w'') :
    Calls Tryd.prog 19 #[spV l h, .func (.func 25) #[] #[]] w fun e w' => e = .returned (.tuple #[.int .i64 0, .bool false]) ∧ Below w.heap.size w w' := by
  generalize hw1 : w.alloc (.cells #[.int .i64 l, .int .i64 h] 26) = w1
  have B1 : Below w.heap.size w w1 := hw1 ▸ below_new w _
  have X : Box w1 w.heap.size l h := hw1 ▸ Box.new w l h _
  have k0 := cell_regrown X.c0
  have k1 := cell_regrown X.c1
  have q1 : ∀ d os, Calls Tryd.prog 25 #[.int .i64 l] (grow (redrawn w1 d) os) fun e w'' => e = .returned (.int .i64 x) ∧ ∃ p : Regrown, w'' = grow (redrawn w1 p.d) p.os := fun d os => Calls.regrown_of (c1 _ (below1 B1 (below_regrown w1 d os)))
  have q2 : ∀ d os, Calls Tryd.prog 25 #[.int .i64 h] (grow (redrawn w1 d) os) fun e w'' => e = .returned (.int .i64 y) ∧ ∃ p : Regrown, w'' = grow (redrawn w1 p.d) p.os := fun d os => Calls.regrown_of (c2 _ (below1 B1 (below_regrown w1 d os)))
  go_enter Tryd.func19, Tryd.ntmps19
  go_wp2_with fail
  refine KS.region (by kernel_rfl) (by kernel_rfl) ?_
  repeat (refine KS.step (fun K hK => ?_); go_simp; refine hK _ ?_; clear hK K)
  refine KS.step (fun K hK => ?_)
  go_simp
  apply Exists.intro
  refine ⟨fun _ => ?_, hK _ ?_⟩
  exact q1 _ _
  clear hK K
  repeat (refine KS.step (fun K hK => ?_); go_simp; refine hK _ ?_; clear hK K)
  refine KS.step (fun K hK => ?_)
  go_simp
  apply Exists.intro
  refine ⟨fun _ => ?_, hK _ ?_⟩
  exact q2 _ _
  clear hK K
  repeat (refine KS.step (fun K hK => ?_); go_simp; refine hK _ ?_; clear hK K)
  refine KS.nil ?_
  rintro _ ⟨p', rfl⟩
  go_wp2
  go_ret2
  exact ⟨rfl, below1 B1 (below_regrown _ _ _)⟩
theorem sureSign_any (l h : Int) (a : Addr) (w : World) (hs : Sn a w) :
    Calls Tryd.prog 12 #[spV l h] w fun e w' => e = .returned (.tuple #[.int .i64 (signV l h), .bool (signB l h)]) ∧ Below w.heap.size w w' := by
  go_enter Tryd.func12, Tryd.ntmps12
  go_wp2_with fail
  refine (spanOk_any l h a _ (hs.alloc _)).mono ?_
  rintro e w2 ⟨rfl, B2⟩
  have B := below1 (below_new w _) B2
  obtain ⟨c0, c1, f0, f1⟩ := (Box.new w l h 26).kept B2
  clear B2
  cases ho : okS l h
  · have hn := sign_no ho
    go_wp2
    go_ret2
    exact ⟨ret_ib (signV_no hn).symm hn.symm, B⟩
  · by_cases e : cmpV l = cmpV h
    · have hn := sign_mk ho e
      have H : Hid (cmpV h = signV l h) := e.symm.trans (signV_of hn).symm
      have q2 : ∀ w', Below w2.heap.size w2 w' → Calls Tryd.prog 25 #[.int .i64 h] w' fun e w'' => e = .returned (.int .i64 (cmpV l)) ∧ Below w'.heap.size w' w'' := fun w' _ => e ▸ signOf_any h w'
      go_wp2_with fail
      refine (sureOf_sign_eq l h _ _ (fun w' _ => signOf_any l w') q2).mono ?_
      rintro e w5 ⟨rfl, B5⟩
      replace B := below1 B B5
      clear q2
      go_wp2
      go_ret2
      exact ⟨ret_ib H.out hn.symm, B⟩
    · have hn := sign_ne e
      have e1 : (cmpV l != cmpV h) = true := by simpa using e
      go_wp2_with fail
      refine (sureOf_sign_ne l h _ _ _ e1 (fun w' _ => signOf_any l w') (fun w' _ => signOf_any h w')).mono ?_
      rintro e w5 ⟨rfl, B5⟩
      replace B := below1 B B5
      go_wp2
      go_ret2
      exact ⟨ret_ib (signV_no hn).symm hn.symm, B⟩

theorem sSureSign_any (l h : Int) (w : World) :
    Calls Tryd.prog 11 #[spV l h] w fun e w' => e = .returned (.tuple #[.int .i64 (signV l h), .bool (signB l h)]) ∧ Below w.heap.size w w' := by
  go_enter Tryd.func11, Tryd.ntmps11
  go_wp2_with fail
  refine (sSpanOk_any l h _).mono ?_
  rintro e w2 ⟨rfl, B2⟩
  have B := below1 (below_new w _) B2
  have S := (Box.new w l h 26).kept B2
  clear B2
  cases ho : okS l h
  · have hn := sign_no ho
    go_wp2
    go_ret2
    exact ⟨ret_ib (signV_no hn).symm hn.symm, B⟩
  · obtain ⟨o1, o2, o3⟩ := okS_of ho
    have ⟨c0, c1, f0, f1⟩ := S
    by_cases z1 : 0 < l
    · obtain ⟨n1, n2⟩ := sign_above ho z1
      go_wp2
      go_ret2
      exact ⟨ret_ib n2.symm n1.symm, B⟩
    · by_cases z2 : h < 0
      · obtain ⟨n1, n2⟩ := sign_below ho z2
        go_wp2
        go_ret2
        exact ⟨ret_ib n2.symm n1.symm, B⟩
      · go_wp2_with fail
        clear c0 c1 f0 f1
        have k0 := cell_regrown S.c0
        have k1 := cell_regrown S.c1
        by_cases z3 : l = 0
        · subst z3
          by_cases z4 : h = 0
          · subst z4
            refine KS.region (by kernel_rfl) (by kernel_rfl) ?_
            repeat (refine KS.step (fun K hK => ?_); go_simp; refine hK _ ?_; clear hK K)
            refine KS.nil ?_
            rintro _ ⟨p', rfl⟩
            go_wp2
            go_ret2
            exact ⟨rfl, below1 B (below_regrown _ _ _)⟩
          · have hn := sign_mixed ho (by omega) (by omega) (by omega)
            have z5 : (h == 0) = false := by simpa using z4
            refine KS.region (by kernel_rfl) (by kernel_rfl) ?_
            repeat (refine KS.step (fun K hK => ?_); go_simp; refine hK _ ?_; clear hK K)
            refine KS.nil ?_
            rintro _ ⟨p', rfl⟩
            go_wp2
            go_ret2
            exact ⟨ret_ib (signV_no hn).symm hn.symm, below1 B (below_regrown _ _ _)⟩
        · have hn := sign_mixed ho (by omega) (by omega) (by omega)
          have z5 : (l == 0) = false := by simpa using z3
          refine KS.region (by kernel_rfl) (by kernel_rfl) ?_
          repeat (refine KS.step (fun K hK => ?_); go_simp; refine hK _ ?_; clear hK K)
          refine KS.nil ?_
          rintro _ ⟨p', rfl⟩
          go_wp2
          go_ret2
          exact ⟨ret_ib (signV_no hn).symm hn.symm, below1 B (below_regrown _ _ _)⟩

theorem belowZero_any (x : Int) (w : World) : Calls Tryd.prog 24 #[.int .i64 x] w fun e w' => e = .returned (.bool (decide (x < 0))) ∧ Below w.heap.size w w' := by
  go_enter Tryd.func24, Tryd.ntmps24
  go_wp2
  go_ret
  exact ⟨rfl, Below.refl _ _⟩
theorem about_s (l h : Int) (w : World) (h1 : -1073000000 ≤ l) (h2 : l ≤ 1073000000) (h3 : -1073000000 ≤ h) (h4 : h ≤ 1073000000) :
    Calls Tryd.prog 23 #[spV l h] w fun e w' => e = .returned (spV (-h) (-l)) ∧ Below w.heap.size w w' := by
  go_enter Tryd.func23, Tryd.ntmps23
  go_wp2
  refine bodyPost_ret (v := .agg #[.int .i64 (-h), .int .i64 (-l)]) (by simp [results, Tryd.results23, go_sem]) rfl ⟨rfl, ?_⟩
  exact below_new2 w _ _
theorem plus_s (sl sh tl th : Int) (w : World) (o1 : -1073000000 ≤ sl) (o2 : sl ≤ sh) (o3 : sh ≤ 1073000000) (p1 : -1073000000 ≤ tl) (p2 : tl ≤ th) (p3 : th ≤ 1073000000) :
    Calls Tryd.prog 22 #[spV sl sh, spV tl th] w fun e w' => e = .returned (spV (sl + tl) (sh + th)) ∧ Below w.heap.size w w' := by
  go_enter Tryd.func22, Tryd.ntmps22
  go_wp2
  refine bodyPost_ret (v := .agg #[.int .i64 (sl + tl), .int .i64 (sh + th)]) (by simp [results, Tryd.results22, go_sem]) rfl ⟨rfl, ?_⟩
  exact below_new3 w _ _ _
theorem sureOf_bool_eq (l h : Int) (x : Bool) (w : World) (c1 : ∀ w', Below w.heap.size w w' → Calls Tryd.prog 24 #[.int .i64 l] w' fun e w'' => e = .returned (.bool x) ∧ Below w'.heap.size w' w'') (c2 : ∀ w', Below w.heap.size w w' → Calls Tryd.prog 24 #[.int .i64 h] w' fun e w'' => e = .returned (.bool x) ∧ Below w'.heap.size w' w'') :
    Calls Tryd.prog 21 #[spV l h, .func (.func 24) #[] #[]] w fun e w' => e = .returned (.tuple #[.bool x, .bool true]) ∧ Below w.heap.size w w' := by
  generalize hw1 : w.alloc (.cells #[.int .i64 l, .int .i64 h] 26) = w1
  have B1 : Below w.heap.size w w1 := hw1 ▸ below_new w _
  have X : Box w1 w.heap.size l h := hw1 ▸ Box.new w l h _
  have k0 := cell_regrown X.c0
  have k1 := cell_regrown X.c1
  have q1 : ∀ d os, Calls Tryd.prog 24 #[.int .i64 l] (grow (redrawn w1 d) os) fun e w'' => e = .returned (.bool x) ∧ ∃ p : Regrown, w'' = grow (redrawn w1 p.d) p.os := fun d os => Calls.regrown_of (c1 _ (below1 B1 (below_regrown w1 d os)))
  have q2 : ∀ d os, Calls Tryd.prog 24 #[.int .i64 h] (grow (redrawn w1 d) os) fun e w'' => e = .returned (.bool x) ∧ ∃ p : Regrown, w'' = grow (redrawn w1 p.d) p.os := fun d os => Calls.regrown_of (c2 _ (below1 B1 (below_regrown w1 d os)))
  go_enter Tryd.func21, Tryd.ntmps21
  go_wp2_with fail
  refine KS.region (by kernel_rfl) (by kernel_rfl) ?_
  repeat (refine KS.step (fun K hK => ?_); go_simp; refine hK _ ?_; clear hK K)
  refine KS.step (fun K hK => ?_)
  go_simp
  apply Exists.intro
  refine ⟨fun _ => ?_, hK _ ?_⟩
  exact q1 _ _
  clear hK K
  repeat (refine KS.step (fun K hK => ?_); go_simp; refine hK _ ?_; clear hK K)
  refine KS.step (fun K hK => ?_)
  go_simp
  apply Exists.intro
  refine ⟨fun _ => ?_, hK _ ?_⟩
  exact q2 _ _
  clear hK K
  repeat (refine KS.step (fun K hK => ?_); go_simp; refine hK _ ?_; clear hK K)
  refine KS.nil ?_
  rintro _ ⟨p', rfl⟩
  go_wp2
  go_ret2
  exact ⟨rfl, below1 B1 (below_regrown _ _ _)⟩
theorem sureOf_bool_ne (l h : Int) (x y : Bool) (w : World) (hn : (!(x == y)) = true) (c1 : ∀ w', Below w.heap.size w w' → Calls Tryd.prog 24 #[.int .i64 l] w' fun e w'' => e = .returned (.bool x) ∧ Below w'.heap.size w' w'') (c2 : ∀ w', Below w.heap.size w w' → Calls Tryd.prog 24 #[.int .i64 h] w' fun e w'' => e = .returned (.bool y) ∧ Below w'.heap.size w' w'') :
    Calls Tryd.prog 21 #[spV l h, .func (.func 24) #[] #[]] w fun e w' => e = .returned (.tuple #[.bool false, .bool false]) ∧ Below w.heap.size w w' := by
  generalize hw1 : w.alloc (.cells #[.int .i64 l, .int .i64 h] 26) = w1
  have B1 : Below w.heap.size w w1 := hw1 ▸ below_new w _
  have X : Box w1 w.heap.size l h := hw1 ▸ Box.new w l h _
  have k0 := cell_regrown X.c0
  have k1 := cell_regrown X.c1
  have q1 : ∀ d os, Calls Tryd.prog 24 #[.int .i64 l] (grow (redrawn w1 d) os) fun e w'' => e = .returned (.bool x) ∧ ∃ p : Regrown, w'' = grow (redrawn w1 p.d) p.os := fun d os => Calls.regrown_of (c1 _ (below1 B1 (below_regrown w1 d os)))
  have q2 : ∀ d os, Calls Tryd.prog 24 #[.int .i64 h] (grow (redrawn w1 d) os) fun e w'' => e = .returned (.bool y) ∧ ∃ p : Regrown, w'' = grow (redrawn w1 p.d) p.os := fun d os => Calls.regrown_of (c2 _ (below1 B1 (below_regrown w1 d os)))
  go_enter Tryd.func21, Tryd.ntmps21
  go_wp2_with fail
  refine KS.region (by kernel_rfl) (by kernel_rfl) ?_
  repeat (refine KS.step (fun K hK => ?_); go_simp; refine hK _ ?_; clear hK K)
  refine KS.step (fun K hK => ?_)
  go_simp
  apply Exists.intro
  refine ⟨fun _ => ?_, hK _ ?_⟩
  exact q1 _ _
  clear hK K
  repeat (refine KS.step (fun K hK => ?_); go_simp; refine hK _ ?_; clear hK K)
  refine KS.step (fun K hK => ?_)
  go_simp
  apply Exists.intro
  refine ⟨fun _ => ?_, hK _ ?_⟩
  exact q2 _ _
  clear hK K
  repeat (refine KS.step (fun K hK => ?_); go_simp; refine hK _ ?_; clear hK K)
  refine KS.nil ?_
  rintro _ ⟨p', rfl⟩
  go_wp2
  go_ret2
  exact ⟨rfl, below1 B1 (below_regrown _ _ _)⟩
theorem sureLess_any (sl sh tl th : Int) (a : Addr) (w : World) (hs : Sn a w) :
    Calls Tryd.prog 10 #[spV sl sh, spV tl th] w fun e w' => e = .returned (.int .i64 (lessV sl sh tl th)) ∧ Below w.heap.size w w' := by
  go_enter Tryd.func10, Tryd.ntmps10
  go_wp2_with fail
  refine (spanOk_any sl sh a _ ((hs.alloc _).alloc _)).mono ?_
  rintro e w2 ⟨rfl, B2⟩
  have B := below1 (below_new2 w _ _) B2
  have S := ((Box.new w sl sh 26).alloc (.cells #[.int .i64 tl, .int .i64 th] 26)).kept B2
  have T := (Box.new2 w (.cells #[.int .i64 sl, .int .i64 sh] 26) tl th 26).kept B2
  have hs2 := ((hs.alloc (.cells #[.int .i64 sl, .int .i64 sh] 26)).alloc (.cells #[.int .i64 tl, .int .i64 th] 26)).kept B2
  clear B2
  cases ho : okS sl sh
  · have hv : Hid (3 = lessV sl sh tl th) := (less_no (both_no1 ho)).symm
    go_wp2
    go_ret
    exact ⟨NW.ret_int hv.out, B⟩
  · have ⟨t0, t1, t2, t3⟩ := T
    go_wp2_with fail
    refine (spanOk_any tl th a _ hs2).mono ?_
    rintro e w3 ⟨rfl, B3⟩
    clear t0 t1 t2 t3
    replace B := below1 B B3
    replace S := S.kept B3
    replace T := T.kept B3
    clear B3 hs2
    cases ht : okS tl th
    · have hv : Hid (3 = lessV sl sh tl th) := (less_no (both_no2 ht)).symm
      go_wp2
      go_ret
      exact ⟨NW.ret_int hv.out, B⟩
    · obtain ⟨o1, o2, o3⟩ := okS_of ho
      obtain ⟨p1, p2, p3⟩ := okS_of ht
      have hb := both_mk ho ht
      have k0 := cell_regrown S.c0
      have k1 := cell_regrown S.c1
      have k2 := cell_regrown T.c0
      have k3 := cell_regrown T.c1
      have q1 : ∀ d os, Calls Tryd.prog 23 #[spV tl th] (grow (redrawn w3 d) os) fun e w'' => e = .returned (spV (-th) (-tl)) ∧ ∃ p : Regrown, w'' = grow (redrawn w3 p.d) p.os := fun d os => Calls.regrown_of (about_s tl th _ (by omega) (by omega) (by omega) (by omega))
      have q2 : ∀ d os, Calls Tryd.prog 22 #[spV sl sh, spV (-th) (-tl)] (grow (redrawn w3 d) os) fun e w'' => e = .returned (spV (sl + -th) (sh + -tl)) ∧ ∃ p : Regrown, w'' = grow (redrawn w3 p.d) p.os := fun d os => Calls.regrown_of (plus_s sl sh (-th) (-tl) _ (by omega) (by omega) (by omega) (by omega) (by omega) (by omega))
      by_cases z1 : sh < tl
      · have d1 : decide (sl + -th < 0) = true := decide_eq_true (by omega)
        have d2 : decide (sh + -tl < 0) = true := decide_eq_true (by omega)
        have hv : Hid (1 = lessV sl sh tl th) := (less_yes hb z1).symm
        have q3 : ∀ d os, Calls Tryd.prog 21 #[spV (sl + -th) (sh + -tl), .func (.func 24) #[] #[]] (grow (redrawn w3 d) os) fun e w'' => e = .returned (.tuple #[.bool true, .bool true]) ∧ ∃ p : Regrown, w'' = grow (redrawn w3 p.d) p.os := fun d os => Calls.regrown_of (sureOf_bool_eq (sl + -th) (sh + -tl) true _ (fun w' _ => d1 ▸ belowZero_any _ w') (fun w' _ => d2 ▸ belowZero_any _ w'))
        go_wp2_with fail
        refine KS.region (by kernel_rfl) (by kernel_rfl) ?_
        repeat (refine KS.step (fun K hK => ?_); go_simp; refine hK _ ?_; clear hK K)
        refine KS.step (fun K hK => ?_)
        go_simp
        apply Exists.intro
        refine ⟨fun _ => ?_, hK _ ?_⟩
        exact q1 _ _
        clear hK K
        repeat (refine KS.step (fun K hK => ?_); go_simp; refine hK _ ?_; clear hK K)
        refine KS.step (fun K hK => ?_)
        go_simp
        apply Exists.intro
        refine ⟨fun _ => ?_, hK _ ?_⟩
        exact q2 _ _
        clear hK K
        repeat (refine KS.step (fun K hK => ?_); go_simp; refine hK _ ?_; clear hK K)
        refine KS.step (fun K hK => ?_)
        go_simp
        apply Exists.intro
        refine ⟨fun _ => ?_, hK _ ?_⟩
        exact q3 _ _
        clear hK K
        repeat (refine KS.step (fun K hK => ?_); go_simp; refine hK _ ?_; clear hK K)
        refine KS.nil ?_
        rintro _ ⟨p', rfl⟩
        go_wp2
        go_ret
        exact ⟨NW.ret_int hv.out, below1 B (below_regrown _ _ _)⟩
      · by_cases z2 : th ≤ sl
        · have d1 : decide (sl + -th < 0) = false := decide_eq_false (by omega)
          have d2 : decide (sh + -tl < 0) = false := decide_eq_false (by omega)
          have hv : Hid (2 = lessV sl sh tl th) := (less_not hb z1 z2).symm
          have q3 : ∀ d os, Calls Tryd.prog 21 #[spV (sl + -th) (sh + -tl), .func (.func 24) #[] #[]] (grow (redrawn w3 d) os) fun e w'' => e = .returned (.tuple #[.bool false, .bool true]) ∧ ∃ p : Regrown, w'' = grow (redrawn w3 p.d) p.os := fun d os => Calls.regrown_of (sureOf_bool_eq (sl + -th) (sh + -tl) false _ (fun w' _ => d1 ▸ belowZero_any _ w') (fun w' _ => d2 ▸ belowZero_any _ w'))
          go_wp2_with fail
          refine KS.region (by kernel_rfl) (by kernel_rfl) ?_
          repeat (refine KS.step (fun K hK => ?_); go_simp; refine hK _ ?_; clear hK K)
          refine KS.step (fun K hK => ?_)
          go_simp
          apply Exists.intro
          refine ⟨fun _ => ?_, hK _ ?_⟩
          exact q1 _ _
          clear hK K
          repeat (refine KS.step (fun K hK => ?_); go_simp; refine hK _ ?_; clear hK K)
          refine KS.step (fun K hK => ?_)
          go_simp
          apply Exists.intro
          refine ⟨fun _ => ?_, hK _ ?_⟩
          exact q2 _ _
          clear hK K
          repeat (refine KS.step (fun K hK => ?_); go_simp; refine hK _ ?_; clear hK K)
          refine KS.step (fun K hK => ?_)
          go_simp
          apply Exists.intro
          refine ⟨fun _ => ?_, hK _ ?_⟩
          exact q3 _ _
          clear hK K
          repeat (refine KS.step (fun K hK => ?_); go_simp; refine hK _ ?_; clear hK K)
          refine KS.nil ?_
          rintro _ ⟨p', rfl⟩
          go_wp2
          go_ret
          exact ⟨NW.ret_int hv.out, below1 B (below_regrown _ _ _)⟩
        · have d1 : decide (sl + -th < 0) = true := decide_eq_true (by omega)
          have d2 : decide (sh + -tl < 0) = false := decide_eq_false (by omega)
          have hv : Hid (3 = lessV sl sh tl th) := (less_else z1 z2).symm
          have q3 : ∀ d os, Calls Tryd.prog 21 #[spV (sl + -th) (sh + -tl), .func (.func 24) #[] #[]] (grow (redrawn w3 d) os) fun e w'' => e = .returned (.tuple #[.bool false, .bool false]) ∧ ∃ p : Regrown, w'' = grow (redrawn w3 p.d) p.os := fun d os => Calls.regrown_of (sureOf_bool_ne (sl + -th) (sh + -tl) true false _ rfl (fun w' _ => d1 ▸ belowZero_any _ w') (fun w' _ => d2 ▸ belowZero_any _ w'))
          go_wp2_with fail
          refine KS.region (by kernel_rfl) (by kernel_rfl) ?_
          repeat (refine KS.step (fun K hK => ?_); go_simp; refine hK _ ?_; clear hK K)
          refine KS.step (fun K hK => ?_)
          go_simp
          apply Exists.intro
          refine ⟨fun _ => ?_, hK _ ?_⟩
          exact q1 _ _
          clear hK K
          repeat (refine KS.step (fun K hK => ?_); go_simp; refine hK _ ?_; clear hK K)
          refine KS.step (fun K hK => ?_)
          go_simp
          apply Exists.intro
          refine ⟨fun _ => ?_, hK _ ?_⟩
          exact q2 _ _
          clear hK K
          repeat (refine KS.step (fun K hK => ?_); go_simp; refine hK _ ?_; clear hK K)
          refine KS.step (fun K hK => ?_)
          go_simp
          apply Exists.intro
          refine ⟨fun _ => ?_, hK _ ?_⟩
          exact q3 _ _
          clear hK K
          repeat (refine KS.step (fun K hK => ?_); go_simp; refine hK _ ?_; clear hK K)
          refine KS.nil ?_
          rintro _ ⟨p', rfl⟩
          go_wp2
          go_ret
          exact ⟨NW.ret_int hv.out, below1 B (below_regrown _ _ _)⟩

theorem sSureLess_any (sl sh tl th : Int) (w : World) :
    Calls Tryd.prog 9 #[spV sl sh, spV tl th] w fun e w' => e = .returned (.int .i64 (lessV sl sh tl th)) ∧ Below w.heap.size w w' := by
  go_enter Tryd.func9, Tryd.ntmps9
  go_wp2_with fail
  refine (sSpanOk_any sl sh _).mono ?_
  rintro e w2 ⟨rfl, B2⟩
  have B := below1 (below_new2 w _ _) B2
  have S := ((Box.new w sl sh 26).alloc (.cells #[.int .i64 tl, .int .i64 th] 26)).kept B2
  have T := (Box.new2 w (.cells #[.int .i64 sl, .int .i64 sh] 26) tl th 26).kept B2
  clear B2
  cases ho : okS sl sh
  · have hv : Hid (3 = lessV sl sh tl th) := (less_no (both_no1 ho)).symm
    go_wp2
    go_ret
    exact ⟨NW.ret_int hv.out, B⟩
  · have ⟨t0, t1, t2, t3⟩ := T
    go_wp2_with fail
    refine (sSpanOk_any tl th _).mono ?_
    rintro e w3 ⟨rfl, B3⟩
    clear t0 t1 t2 t3
    replace B := below1 B B3
    obtain ⟨s0, s1, s2, s3⟩ := S.kept B3
    obtain ⟨t0, t1, t2, t3⟩ := T.kept B3
    clear B3 S T
    cases ht : okS tl th
    · have hv : Hid (3 = lessV sl sh tl th) := (less_no (both_no2 ht)).symm
      go_wp2
      go_ret
      exact ⟨NW.ret_int hv.out, B⟩
    · have hb := both_mk ho ht
      by_cases z1 : sh < tl
      · have hv : Hid (1 = lessV sl sh tl th) := (less_yes hb z1).symm
        go_wp2
        go_ret
        exact ⟨NW.ret_int hv.out, B⟩
      · by_cases z2 : th ≤ sl
        · have hv : Hid (2 = lessV sl sh tl th) := (less_not hb z1 z2).symm
          go_wp2
          go_ret
          exact ⟨NW.ret_int hv.out, B⟩
        · have hv : Hid (3 = lessV sl sh tl th) := (less_else z1 z2).symm
          go_wp2
          go_ret
          exact ⟨NW.ret_int hv.out, B⟩

end SW
end Go.Proofs.YtldogjldnckdmayDoor
