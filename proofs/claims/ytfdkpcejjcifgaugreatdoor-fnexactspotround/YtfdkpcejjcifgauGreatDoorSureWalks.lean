/-
  What the functions of chapter 3 answer: SureRound, SureLess, SureSign, the specification's and the program's, at every argument.
-/
import Derived.Test.YtfdkpcejjcifgauGreatDoorRows
import Derived.Test.YtfdkpcejjcifgauGreatDoorNumWalks
import Derived.Test.YtfdkpcejjcifgauGreatDoorSpanFits
import Derived.Test.YtfdkpcejjcifgauGreatDoorSpanWalks
import Derived.Test.YtfdkpcejjcifgauGreatDoorSureMath
import Derived.Test.YtfdkpcejjcifgauGreatDoorKeptStep
import Derived.WalkKit
import Derived.Below
import Derived.Lib.QuietBelow
namespace Go.Proofs.YtfdkpcejjcifgauGreatDoor
open Go.RowKit Go.Sort
set_option linter.unusedVariables false
namespace SW
open SM SR

theorem ret_ib {a b : Int} {c d : Bool} (h : a = b) (g : c = d) : Ending.returned (.tuple #[.int .i64 a, .bool c]) = .returned (.tuple #[.int .i64 b, .bool d]) := by rw [h, g]

theorem sureOf_clo_eq (l h : Int) (x : Int) (rb pb : Nat) (w : World) (c1 : ∀ w', Below w.heap.size w w' → Calls Tryz.prog 55 #[.int .i64 l, .pointer (some ⟨rb, 0, none⟩), .pointer (some ⟨pb, 0, none⟩)] w' fun e w'' => e = .returned (.int .i64 x) ∧ Below w'.heap.size w' w'') (c2 : ∀ w', Below w.heap.size w w' → Calls Tryz.prog 55 #[.int .i64 h, .pointer (some ⟨rb, 0, none⟩), .pointer (some ⟨pb, 0, none⟩)] w' fun e w'' => e = .returned (.int .i64 x) ∧ Below w'.heap.size w' w'') :
    Calls Tryz.prog 54 #[spV l h, .func (.func 55) #[] #[.pointer (some ⟨rb, 0, none⟩), .pointer (some ⟨pb, 0, none⟩)]] w fun e w' => e = .returned (.tuple #[.int .i64 x, .bool true]) ∧ Below w.heap.size w w' := by
  generalize hw1 : w.alloc (.cells #[.int .i64 l, .int .i64 h] 34) = w1
  have B1 : Below w.heap.size w w1 := hw1 ▸ below_new w _
  have X : Box w1 w.heap.size l h := hw1 ▸ Box.new w l h _
  have k0 := cell_regrown X.c0
  have k1 := cell_regrown X.c1
  have q1 : ∀ d os, Calls Tryz.prog 55 #[.int .i64 l, .pointer (some ⟨rb, 0, none⟩), .pointer (some ⟨pb, 0, none⟩)] (grow (redrawn w1 d) os) fun e w'' => e = .returned (.int .i64 x) ∧ ∃ p : Regrown, w'' = grow (redrawn w1 p.d) p.os := fun d os => Calls.regrown_of (c1 _ (below1 B1 (below_regrown w1 d os)))
  have q2 : ∀ d os, Calls Tryz.prog 55 #[.int .i64 h, .pointer (some ⟨rb, 0, none⟩), .pointer (some ⟨pb, 0, none⟩)] (grow (redrawn w1 d) os) fun e w'' => e = .returned (.int .i64 x) ∧ ∃ p : Regrown, w'' = grow (redrawn w1 p.d) p.os := fun d os => Calls.regrown_of (c2 _ (below1 B1 (below_regrown w1 d os)))
  go_enter Tryz.func54, Tryz.ntmps54
  go_wp2_with fail
  refine KS.region (by kernel_rfl) (by kernel_rfl) ?_
  repeat (refine KS.step (fun K hK => ?_); go_simp; refine hK _ ?_; clear hK K)
  refine KS.step (fun K hK => ?_)
  go_simp
  apply Exists.intro
  refine ⟨fun _ => ?_, hK _ ?_⟩
  exact q1 _ _
  clear hK K
  repeat (refine KS.step (fun K hK => ?_); go_simp; refine hK _ ?_; clear hK K)
  refine KS.step (fun K hK => ?_)
  go_simp
  apply Exists.intro
  refine ⟨fun _ => ?_, hK _ ?_⟩
  exact q2 _ _
  clear hK K
  repeat (refine KS.step (fun K hK => ?_); go_simp; refine hK _ ?_; clear hK K)
  refine KS.nil ?_
  rintro _ ⟨p', rfl⟩
  go_wp2
  go_ret2
  exact ⟨rfl, below1 B1 (below_regrown _ _ _)⟩
theorem sureOf_clo_ne (l h : Int) (x y : Int) (rb pb : Nat) (w : World) (hn : (x != y) = true) (c1 : ∀ w', Below w.heap.size w w' → Calls Tryz.prog 55 #[.int .i64 l, .pointer (some ⟨rb, 0, none⟩), .pointer (some ⟨pb, 0, none⟩)] w' fun e w'' => e = .returned (.int .i64 x) ∧ Below w'.heap.size w' w'') (c2 : ∀ w', Below w.heap.size w w' → Calls Tryz.prog 55 #[.int .i64 h, .pointer (some ⟨rb, 0, none⟩), .pointer (some ⟨pb, 0, none⟩)] w' fun e w'' => e = .returned (.int .i64 y) ∧ Below w'.heap.size w' w'') :
    Calls Tryz.prog 54 #[spV l h, .func (.func 55) #[] #[.pointer (some ⟨rb, 0, none⟩), .pointer (some ⟨pb, 0, none⟩)]] w fun e w' => e = .returned (.tuple #[.int .i64 0, .bool false]) ∧ Below w.heap.size w w' := by
  generalize hw1 : w.alloc (.cells #[.int .i64 l, .int .i64 h] 34) = w1
  have B1 : Below w.heap.size w w1 := hw1 ▸ below_new w _
  have X : Box w1 w.heap.size l h := hw1 ▸ Box.new w l h _
  have k0 := cell_regrown X.c0
  have k1 := cell_regrown X.c1
  have q1 : ∀ d os, Calls Tryz.prog 55 #[.int .i64 l, .pointer (some ⟨rb, 0, none⟩), .pointer (some ⟨pb, 0, none⟩)] (grow (redrawn w1 d) os) fun e w'' => e = .returned (.int .i64 x) ∧ ∃ p : Regrown, w'' = grow (redrawn w1 p.d) p.os := fun d os => Calls.regrown_of (c1 _ (below1 B1 (below_regrown w1 d os)))
  have q2 : ∀ d os, Calls Tryz.prog 55 #[.int .i64 h, .pointer (some ⟨rb, 0, none⟩), .pointer (some ⟨pb, 0, none⟩)] (grow (redrawn w1 d) os) fun e w'' => e = .returned (.int .i64 y) ∧ ∃ p : Regrown, w'' = grow (redrawn w1 p.d) p.os := fun d os => Calls.regrown_of (c2 _ (below1 B1 (below_regrown w1 d os)))
  go_enter Tryz.func54, Tryz.ntmps54
  go_wp2_with fail
  refine KS.region (by kernel_rfl) (by kernel_rfl) ?_
  repeat (refine KS.step (fun K hK => ?_); go_simp; refine hK _ ?_; clear hK K)
  refine KS.step (fun K hK => ?_)
  go_simp
  apply Exists.intro
  refine ⟨fun _ => ?_, hK _ ?_⟩
  exact q1 _ _
  clear hK K
  repeat (refine KS.step (fun K hK => ?_); go_simp; refine hK _ ?_; clear hK K)
  refine KS.step (fun K hK => ?_)
  go_simp
  apply Exists.intro
  refine ⟨fun _ => ?_, hK _ ?_⟩
  exact q2 _ _
  clear hK K
  repeat (refine KS.step (fun K hK => ?_); go_simp; refine hK _ ?_; clear hK K)
  refine KS.nil ?_
  rintro _ ⟨p', rfl⟩
  go_wp2
  go_ret2
  exact ⟨rfl, below1 B1 (below_regrown _ _ _)⟩

theorem clo_1 (x p : Int) (rb pb : Nat) (w : World) (hr : w.cell? ⟨rb, 0, none⟩ = some (.func (.func 66) #[] #[])) (hp : w.cell? ⟨pb, 0, none⟩ = some (.int .i64 p)) (h1 : -1152921504606846976 ≤ x) (h2 : x ≤ 1152921504606846976) (h3 : 1 ≤ p) (h4 : p ≤ 1152921504606846976) :
    Calls Tryz.prog 55 #[.int .i64 x, .pointer (some ⟨rb, 0, none⟩), .pointer (some ⟨pb, 0, none⟩)] w fun e w' => e = .returned (.int .i64 (NM.rnd x p 1)) ∧ Below w.heap.size w w' := by
  go_enter Tryz.func55, Tryz.ntmps55
  go_wp2_with fail
  refine (NW.roundDown_any _ _ _ h1 h2 h3 h4).mono ?_
  rintro e w' ⟨rfl, rfl⟩
  go_wp2
  go_ret
  exact ⟨NW.ret_int (NM.rnd1 x p).symm, Below.refl _ _⟩
theorem clo_2 (x p : Int) (rb pb : Nat) (w : World) (hr : w.cell? ⟨rb, 0, none⟩ = some (.func (.func 69) #[] #[])) (hp : w.cell? ⟨pb, 0, none⟩ = some (.int .i64 p)) (h1 : -1152921504606846976 ≤ x) (h2 : x ≤ 1152921504606846976) (h3 : 1 ≤ p) (h4 : p ≤ 1152921504606846976) :
    Calls Tryz.prog 55 #[.int .i64 x, .pointer (some ⟨rb, 0, none⟩), .pointer (some ⟨pb, 0, none⟩)] w fun e w' => e = .returned (.int .i64 (NM.rnd x p 2)) ∧ Below w.heap.size w w' := by
  go_enter Tryz.func55, Tryz.ntmps55
  go_wp2_with fail
  refine (NW.roundUp_any _ _ _ h1 h2 h3 h4).mono ?_
  rintro e w' ⟨rfl, rfl⟩
  go_wp2
  go_ret
  exact ⟨NW.ret_int (NM.rnd2 x p).symm, Below.refl _ _⟩
theorem clo_3 (x p : Int) (rb pb : Nat) (w : World) (hr : w.cell? ⟨rb, 0, none⟩ = some (.func (.func 70) #[] #[])) (hp : w.cell? ⟨pb, 0, none⟩ = some (.int .i64 p)) (h1 : -1152921504606846976 ≤ x) (h2 : x ≤ 1152921504606846976) (h3 : 1 ≤ p) (h4 : p ≤ 1152921504606846976) :
    Calls Tryz.prog 55 #[.int .i64 x, .pointer (some ⟨rb, 0, none⟩), .pointer (some ⟨pb, 0, none⟩)] w fun e w' => e = .returned (.int .i64 (NM.rnd x p 3)) ∧ Below w.heap.size w w' := by
  go_enter Tryz.func55, Tryz.ntmps55
  go_wp2_with fail
  refine (NW.roundZero_any _ _ _ h1 h2 h3 h4).mono ?_
  rintro e w' ⟨rfl, rfl⟩
  go_wp2
  go_ret
  exact ⟨NW.ret_int (NM.rnd3 x p).symm, Below.refl _ _⟩
theorem clo_4 (x p : Int) (rb pb : Nat) (w : World) (hr : w.cell? ⟨rb, 0, none⟩ = some (.func (.func 71) #[] #[])) (hp : w.cell? ⟨pb, 0, none⟩ = some (.int .i64 p)) (h1 : -1152921504606846976 ≤ x) (h2 : x ≤ 1152921504606846976) (h3 : 1 ≤ p) (h4 : p ≤ 1152921504606846976) :
    Calls Tryz.prog 55 #[.int .i64 x, .pointer (some ⟨rb, 0, none⟩), .pointer (some ⟨pb, 0, none⟩)] w fun e w' => e = .returned (.int .i64 (NM.rnd x p 4)) ∧ Below w.heap.size w w' := by
  go_enter Tryz.func55, Tryz.ntmps55
  go_wp2_with fail
  refine (NW.roundEven_any _ _ _ h1 h2 h3 h4).mono ?_
  rintro e w' ⟨rfl, rfl⟩
  go_wp2
  go_ret
  exact ⟨NW.ret_int (NM.rnd4 x p).symm, Below.refl _ _⟩


theorem sureRound_1 (l h p : Int) (a : Addr) (w : World) (hs : Sn a w) (ho : okS l h = true) (hp : NM.inB p 1 1000000000 = true) :
    Calls Tryz.prog 24 #[spV l h, .int .i64 p, .int .i64 1] w fun e w' => e = .returned (.tuple #[.int .i64 (sureV l h p 1), .bool (sureB l h p 1)]) ∧ Below w.heap.size w w' := by
  obtain ⟨o1, o2, o3⟩ := okS_of ho
  obtain ⟨p1, p2⟩ := in_of hp
  have hm := may_mk (y := 1) ho hp rfl
  have hy : NM.wayB 1 = true := rfl
  go_enter Tryz.func24, Tryz.ntmps24
  go_wp2_with fail
  refine (spanOk_any l h a _ ((hs.alloc _).alloc _)).mono ?_
  rintro e w2 ⟨rfl, B2⟩
  have B := below1 (below_new2 w _ _) B2
  have S := ((Box.new w l h 34).alloc (.cells #[.int .i64 p] 3)).kept B2
  have hc : w2.cell? ⟨w.heap.size + 1, 0, none⟩ = some (.int .i64 p) := by rw [B2.cell (by simp)]; simp [go_sem]
  clear B2
  have ⟨c0, c1, f0, f1⟩ := S
  go_wp2_with fail
  refine (NW.isWay_any _ _).mono ?_
  rintro e w' ⟨rfl, rfl⟩
  go_wp2_with fail
  refine (NW.roundingOf_1 _).mono ?_
  rintro e w3 ⟨rfl, B3⟩
  clear c0 c1 f0 f1
  have hlt := cell_lt hc
  replace hc := (B3.cell hlt).trans hc
  replace S := (S.kept B3).alloc (.cells #[.func (.func 66) #[] #[]] 65)
  replace B := below1 (below1 B B3) (below_new w3 (.cells #[.func (.func 66) #[] #[]] 65))
  clear B3
  have hr : (w3.alloc (.cells #[.func (.func 66) #[] #[]] 65)).cell? ⟨w3.heap.size, 0, none⟩ = some (.func (.func 66) #[] #[]) := by simp [go_sem]
  have hlt := cell_lt hc
  replace hc : (w3.alloc (.cells #[.func (.func 66) #[] #[]] 65)).cell? ⟨w.heap.size + 1, 0, none⟩ = some (.int .i64 p) := ((below_new w3 _).cell hlt).trans hc
  have q1 : ∀ w', Below (w3.alloc (.cells #[.func (.func 66) #[] #[]] 65)).heap.size (w3.alloc (.cells #[.func (.func 66) #[] #[]] 65)) w' → Calls Tryz.prog 55 #[.int .i64 l, .pointer (some ⟨w3.heap.size, 0, none⟩), .pointer (some ⟨w.heap.size + 1, 0, none⟩)] w' fun e w'' => e = .returned (.int .i64 (NM.rnd l p 1)) ∧ Below w'.heap.size w' w'' :=
    fun w' b => clo_1 l p _ _ w' ((b.cell (cell_lt hr)).trans hr) ((b.cell (cell_lt hc)).trans hc) (by omega) (by omega) (by omega) (by omega)
  have q2 : ∀ w', Below (w3.alloc (.cells #[.func (.func 66) #[] #[]] 65)).heap.size (w3.alloc (.cells #[.func (.func 66) #[] #[]] 65)) w' → Calls Tryz.prog 55 #[.int .i64 h, .pointer (some ⟨w3.heap.size, 0, none⟩), .pointer (some ⟨w.heap.size + 1, 0, none⟩)] w' fun e w'' => e = .returned (.int .i64 (NM.rnd h p 1)) ∧ Below w'.heap.size w' w'' :=
    fun w' b => clo_1 h p _ _ w' ((b.cell (cell_lt hr)).trans hr) ((b.cell (cell_lt hc)).trans hc) (by omega) (by omega) (by omega) (by omega)
  have ⟨c0, c1, f0, f1⟩ := S
  by_cases e : NM.rnd l p 1 = NM.rnd h p 1
  · have hn := sure_mk hm e
    have H : Hid (NM.rnd h p 1 = sureV l h p 1) := e.symm.trans (sureV_of hn).symm
    rw [← e] at q2
    go_wp2_with fail
    refine (sureOf_clo_eq l h _ _ _ _ q1 q2).mono ?_
    rintro e w5 ⟨rfl, B5⟩
    replace B := below1 B B5
    clear q1 q2
    go_wp2
    go_ret2
    exact ⟨ret_ib H.out hn.symm, B⟩
  · have hn := sure_ne e
    have e1 : (NM.rnd l p 1 != NM.rnd h p 1) = true := by simpa using e
    go_wp2_with fail
    refine (sureOf_clo_ne l h _ _ _ _ _ e1 q1 q2).mono ?_
    rintro e w5 ⟨rfl, B5⟩
    replace B := below1 B B5
    clear q1 q2
    go_wp2
    go_ret2
    exact ⟨ret_ib (sureV_no hn).symm hn.symm, B⟩
theorem sureRound_2 (l h p : Int) (a : Addr) (w : World) (hs : Sn a w) (ho : okS l h = true) (hp : NM.inB p 1 1000000000 = true) :
    Calls Tryz.prog 24 #[spV l h, .int .i64 p, .int .i64 2] w fun e w' => e = .returned (.tuple #[.int .i64 (sureV l h p 2), .bool (sureB l h p 2)]) ∧ Below w.heap.size w w' := by
  obtain ⟨o1, o2, o3⟩ := okS_of ho
  obtain ⟨p1, p2⟩ := in_of hp
  have hm := may_mk (y := 2) ho hp rfl
  have hy : NM.wayB 2 = true := rfl
  go_enter Tryz.func24, Tryz.ntmps24
  go_wp2_with fail
  refine (spanOk_any l h a _ ((hs.alloc _).alloc _)).mono ?_
  rintro e w2 ⟨rfl, B2⟩
  have B := below1 (below_new2 w _ _) B2
  have S := ((Box.new w l h 34).alloc (.cells #[.int .i64 p] 3)).kept B2
  have hc : w2.cell? ⟨w.heap.size + 1, 0, none⟩ = some (.int .i64 p) := by rw [B2.cell (by simp)]; simp [go_sem]
  clear B2
  have ⟨c0, c1, f0, f1⟩ := S
  go_wp2_with fail
  refine (NW.isWay_any _ _).mono ?_
  rintro e w' ⟨rfl, rfl⟩
  go_wp2_with fail
  refine (NW.roundingOf_2 _).mono ?_
  rintro e w3 ⟨rfl, B3⟩
  clear c0 c1 f0 f1
  have hlt := cell_lt hc
  replace hc := (B3.cell hlt).trans hc
  replace S := (S.kept B3).alloc (.cells #[.func (.func 69) #[] #[]] 65)
  replace B := below1 (below1 B B3) (below_new w3 (.cells #[.func (.func 69) #[] #[]] 65))
  clear B3
  have hr : (w3.alloc (.cells #[.func (.func 69) #[] #[]] 65)).cell? ⟨w3.heap.size, 0, none⟩ = some (.func (.func 69) #[] #[]) := by simp [go_sem]
  have hlt := cell_lt hc
  replace hc : (w3.alloc (.cells #[.func (.func 69) #[] #[]] 65)).cell? ⟨w.heap.size + 1, 0, none⟩ = some (.int .i64 p) := ((below_new w3 _).cell hlt).trans hc
  have q1 : ∀ w', Below (w3.alloc (.cells #[.func (.func 69) #[] #[]] 65)).heap.size (w3.alloc (.cells #[.func (.func 69) #[] #[]] 65)) w' → Calls Tryz.prog 55 #[.int .i64 l, .pointer (some ⟨w3.heap.size, 0, none⟩), .pointer (some ⟨w.heap.size + 1, 0, none⟩)] w' fun e w'' => e = .returned (.int .i64 (NM.rnd l p 2)) ∧ Below w'.heap.size w' w'' :=
    fun w' b => clo_2 l p _ _ w' ((b.cell (cell_lt hr)).trans hr) ((b.cell (cell_lt hc)).trans hc) (by omega) (by omega) (by omega) (by omega)
  have q2 : ∀ w', Below (w3.alloc (.cells #[.func (.func 69) #[] #[]] 65)).heap.size (w3.alloc (.cells #[.func (.func 69) #[] #[]] 65)) w' → Calls Tryz.prog 55 #[.int .i64 h, .pointer (some ⟨w3.heap.size, 0, none⟩), .pointer (some ⟨w.heap.size + 1, 0, none⟩)] w' fun e w'' => e = .returned (.int .i64 (NM.rnd h p 2)) ∧ Below w'.heap.size w' w'' :=
    fun w' b => clo_2 h p _ _ w' ((b.cell (cell_lt hr)).trans hr) ((b.cell (cell_lt hc)).trans hc) (by omega) (by omega) (by omega) (by omega)
  have ⟨c0, c1, f0, f1⟩ := S
  by_cases e : NM.rnd l p 2 = NM.rnd h p 2
  · have hn := sure_mk hm e
    have H : Hid (NM.rnd h p 2 = sureV l h p 2) := e.symm.trans (sureV_of hn).symm
    rw [← e] at q2
    go_wp2_with fail
    refine (sureOf_clo_eq l h _ _ _ _ q1 q2).mono ?_
    rintro e w5 ⟨rfl, B5⟩
    replace B := below1 B B5
    clear q1 q2
    go_wp2
    go_ret2
    exact ⟨ret_ib H.out hn.symm, B⟩
  · have hn := sure_ne e
    have e1 : (NM.rnd l p 2 != NM.rnd h p 2) = true := by simpa using e
    go_wp2_with fail
    refine (sureOf_clo_ne l h _ _ _ _ _ e1 q1 q2).mono ?_
    rintro e w5 ⟨rfl, B5⟩
    replace B := below1 B B5
    clear q1 q2
    go_wp2
    go_ret2
    exact ⟨ret_ib (sureV_no hn).symm hn.symm, B⟩
theorem sureRound_3 (l h p : Int) (a : Addr) (w : World) (hs : Sn a w) (ho : okS l h = true) (hp : NM.inB p 1 1000000000 = true) :
    Calls Tryz.prog 24 #[spV l h, .int .i64 p, .int .i64 3] w fun e w' => e = .returned (.tuple #[.int .i64 (sureV l h p 3), .bool (sureB l h p 3)]) ∧ Below w.heap.size w w' := by
  obtain ⟨o1, o2, o3⟩ := okS_of ho
  obtain ⟨p1, p2⟩ := in_of hp
  have hm := may_mk (y := 3) ho hp rfl
  have hy : NM.wayB 3 = true := rfl
  go_enter Tryz.func24, Tryz.ntmps24
  go_wp2_with fail
  refine (spanOk_any l h a _ ((hs.alloc _).alloc _)).mono ?_
  rintro e w2 ⟨rfl, B2⟩
  have B := below1 (below_new2 w _ _) B2
  have S := ((Box.new w l h 34).alloc (.cells #[.int .i64 p] 3)).kept B2
  have hc : w2.cell? ⟨w.heap.size + 1, 0, none⟩ = some (.int .i64 p) := by rw [B2.cell (by simp)]; simp [go_sem]
  clear B2
  have ⟨c0, c1, f0, f1⟩ := S
  go_wp2_with fail
  refine (NW.isWay_any _ _).mono ?_
  rintro e w' ⟨rfl, rfl⟩
  go_wp2_with fail
  refine (NW.roundingOf_3 _).mono ?_
  rintro e w3 ⟨rfl, B3⟩
  clear c0 c1 f0 f1
  have hlt := cell_lt hc
  replace hc := (B3.cell hlt).trans hc
  replace S := (S.kept B3).alloc (.cells #[.func (.func 70) #[] #[]] 65)
  replace B := below1 (below1 B B3) (below_new w3 (.cells #[.func (.func 70) #[] #[]] 65))
  clear B3
  have hr : (w3.alloc (.cells #[.func (.func 70) #[] #[]] 65)).cell? ⟨w3.heap.size, 0, none⟩ = some (.func (.func 70) #[] #[]) := by simp [go_sem]
  have hlt := cell_lt hc
  replace hc : (w3.alloc (.cells #[.func (.func 70) #[] #[]] 65)).cell? ⟨w.heap.size + 1, 0, none⟩ = some (.int .i64 p) := ((below_new w3 _).cell hlt).trans hc
  have q1 : ∀ w', Below (w3.alloc (.cells #[.func (.func 70) #[] #[]] 65)).heap.size (w3.alloc (.cells #[.func (.func 70) #[] #[]] 65)) w' → Calls Tryz.prog 55 #[.int .i64 l, .pointer (some ⟨w3.heap.size, 0, none⟩), .pointer (some ⟨w.heap.size + 1, 0, none⟩)] w' fun e w'' => e = .returned (.int .i64 (NM.rnd l p 3)) ∧ Below w'.heap.size w' w'' :=
    fun w' b => clo_3 l p _ _ w' ((b.cell (cell_lt hr)).trans hr) ((b.cell (cell_lt hc)).trans hc) (by omega) (by omega) (by omega) (by omega)
  have q2 : ∀ w', Below (w3.alloc (.cells #[.func (.func 70) #[] #[]] 65)).heap.size (w3.alloc (.cells #[.func (.func 70) #[] #[]] 65)) w' → Calls Tryz.prog 55 #[.int .i64 h, .pointer (some ⟨w3.heap.size, 0, none⟩), .pointer (some ⟨w.heap.size + 1, 0, none⟩)] w' fun e w'' => e = .returned (.int .i64 (NM.rnd h p 3)) ∧ Below w'.heap.size w' w'' :=
    fun w' b => clo_3 h p _ _ w' ((b.cell (cell_lt hr)).trans hr) ((b.cell (cell_lt hc)).trans hc) (by omega) (by omega) (by omega) (by omega)
  have ⟨c0, c1, f0, f1⟩ := S
  by_cases e : NM.rnd l p 3 = NM.rnd h p 3
  · have hn := sure_mk hm e
    have H : Hid (NM.rnd h p 3 = sureV l h p 3) := e.symm.trans (sureV_of hn).symm
    rw [← e] at q2
    go_wp2_with fail
    refine (sureOf_clo_eq l h _ _ _ _ q1 q2).mono ?_
    rintro e w5 ⟨rfl, B5⟩
    replace B := below1 B B5
    clear q1 q2
    go_wp2
    go_ret2
    exact ⟨ret_ib H.out hn.symm, B⟩
  · have hn := sure_ne e
    have e1 : (NM.rnd l p 3 != NM.rnd h p 3) = true := by simpa using e
    go_wp2_with fail
    refine (sureOf_clo_ne l h _ _ _ _ _ e1 q1 q2).mono ?_
    rintro e w5 ⟨rfl, B5⟩
    replace B := below1 B B5
    clear q1 q2
    go_wp2
    go_ret2
    exact ⟨ret_ib (sureV_no hn).symm hn.symm, B⟩
theorem sureRound_4 (l h p : Int) (a : Addr) (w : World) (hs : Sn a w) (ho : okS l h = true) (hp : NM.inB p 1 1000000000 = true) :
    Calls Tryz.prog 24 #[spV l h, .int .i64 p, .int .i64 4] w fun e w' => e = .returned (.tuple #[.int .i64 (sureV l h p 4), .bool (sureB l h p 4)]) ∧ Below w.heap.size w w' := by
  obtain ⟨o1, o2, o3⟩ := okS_of ho
  obtain ⟨p1, p2⟩ := in_of hp
  have hm := may_mk (y := 4) ho hp rfl
  have hy : NM.wayB 4 = true := rfl
  go_enter Tryz.func24, Tryz.ntmps24
  go_wp2_with fail
  refine (spanOk_any l h a _ ((hs.alloc _).alloc _)).mono ?_
  rintro e w2 ⟨rfl, B2⟩
  have B := below1 (below_new2 w _ _) B2
  have S := ((Box.new w l h 34).alloc (.cells #[.int .i64 p] 3)).kept B2
  have hc : w2.cell? ⟨w.heap.size + 1, 0, none⟩ = some (.int .i64 p) := by rw [B2.cell (by simp)]; simp [go_sem]
  clear B2
  have ⟨c0, c1, f0, f1⟩ := S
  go_wp2_with fail
  refine (NW.isWay_any _ _).mono ?_
  rintro e w' ⟨rfl, rfl⟩
  go_wp2_with fail
  refine (NW.roundingOf_4 _).mono ?_
  rintro e w3 ⟨rfl, B3⟩
  clear c0 c1 f0 f1
  have hlt := cell_lt hc
  replace hc := (B3.cell hlt).trans hc
  replace S := (S.kept B3).alloc (.cells #[.func (.func 71) #[] #[]] 65)
  replace B := below1 (below1 B B3) (below_new w3 (.cells #[.func (.func 71) #[] #[]] 65))
  clear B3
  have hr : (w3.alloc (.cells #[.func (.func 71) #[] #[]] 65)).cell? ⟨w3.heap.size, 0, none⟩ = some (.func (.func 71) #[] #[]) := by simp [go_sem]
  have hlt := cell_lt hc
  replace hc : (w3.alloc (.cells #[.func (.func 71) #[] #[]] 65)).cell? ⟨w.heap.size + 1, 0, none⟩ = some (.int .i64 p) := ((below_new w3 _).cell hlt).trans hc
  have q1 : ∀ w', Below (w3.alloc (.cells #[.func (.func 71) #[] #[]] 65)).heap.size (w3.alloc (.cells #[.func (.func 71) #[] #[]] 65)) w' → Calls Tryz.prog 55 #[.int .i64 l, .pointer (some ⟨w3.heap.size, 0, none⟩), .pointer (some ⟨w.heap.size + 1, 0, none⟩)] w' fun e w'' => e = .returned (.int .i64 (NM.rnd l p 4)) ∧ Below w'.heap.size w' w'' :=
    fun w' b => clo_4 l p _ _ w' ((b.cell (cell_lt hr)).trans hr) ((b.cell (cell_lt hc)).trans hc) (by omega) (by omega) (by omega) (by omega)
  have q2 : ∀ w', Below (w3.alloc (.cells #[.func (.func 71) #[] #[]] 65)).heap.size (w3.alloc (.cells #[.func (.func 71) #[] #[]] 65)) w' → Calls Tryz.prog 55 #[.int .i64 h, .pointer (some ⟨w3.heap.size, 0, none⟩), .pointer (some ⟨w.heap.size + 1, 0, none⟩)] w' fun e w'' => e = .returned (.int .i64 (NM.rnd h p 4)) ∧ Below w'.heap.size w' w'' :=
    fun w' b => clo_4 h p _ _ w' ((b.cell (cell_lt hr)).trans hr) ((b.cell (cell_lt hc)).trans hc) (by omega) (by omega) (by omega) (by omega)
  have ⟨c0, c1, f0, f1⟩ := S
  by_cases e : NM.rnd l p 4 = NM.rnd h p 4
  · have hn := sure_mk hm e
    have H : Hid (NM.rnd h p 4 = sureV l h p 4) := e.symm.trans (sureV_of hn).symm
    rw [← e] at q2
    go_wp2_with fail
    refine (sureOf_clo_eq l h _ _ _ _ q1 q2).mono ?_
    rintro e w5 ⟨rfl, B5⟩
    replace B := below1 B B5
    clear q1 q2
    go_wp2
    go_ret2
    exact ⟨ret_ib H.out hn.symm, B⟩
  · have hn := sure_ne e
    have e1 : (NM.rnd l p 4 != NM.rnd h p 4) = true := by simpa using e
    go_wp2_with fail
    refine (sureOf_clo_ne l h _ _ _ _ _ e1 q1 q2).mono ?_
    rintro e w5 ⟨rfl, B5⟩
    replace B := below1 B B5
    clear q1 q2
    go_wp2
    go_ret2
    exact ⟨ret_ib (sureV_no hn).symm hn.symm, B⟩
theorem sureRound_no (l h p y : Int) (a : Addr) (w : World) (hs : Sn a w) (hm : mayB l h p y = false) :
    Calls Tryz.prog 24 #[spV l h, .int .i64 p, .int .i64 y] w fun e w' => e = .returned (.tuple #[.int .i64 (sureV l h p y), .bool (sureB l h p y)]) ∧ Below w.heap.size w w' := by
  have hn := sure_no hm
  have H1 : Hid (0 = sureV l h p y) := (sureV_no hn).symm
  go_enter Tryz.func24, Tryz.ntmps24
  go_wp2_with fail
  refine (spanOk_any l h a _ ((hs.alloc _).alloc _)).mono ?_
  rintro e w2 ⟨rfl, B2⟩
  have B := below1 (below_new2 w _ _) B2
  have hc : w2.cell? ⟨w.heap.size + 1, 0, none⟩ = some (.int .i64 p) := by rw [B2.cell (by simp)]; simp [go_sem]
  clear B2
  cases ho : okS l h
  · go_wp2
    go_ret2
    exact ⟨ret_ib H1.out hn.symm, B⟩
  · by_cases p1 : p < 1
    · go_wp2
      go_ret2
      exact ⟨ret_ib H1.out hn.symm, B⟩
    · by_cases p2 : 1000000000 < p
      · go_wp2
        go_ret2
        exact ⟨ret_ib H1.out hn.symm, B⟩
      · have hy : NM.wayB y = false := by
          cases hy : NM.wayB y
          · rfl
          · rw [may_mk ho (in_mk (by omega) (by omega)) hy] at hm; cases hm
        go_wp2_with fail
        refine (NW.isWay_any _ _).mono ?_
        rintro e w' ⟨rfl, rfl⟩
        go_wp2
        go_ret2
        exact ⟨ret_ib H1.out hn.symm, B⟩
theorem sureRound_any (l h p y : Int) (a : Addr) (w : World) (hs : Sn a w) :
    Calls Tryz.prog 24 #[spV l h, .int .i64 p, .int .i64 y] w fun e w' => e = .returned (.tuple #[.int .i64 (sureV l h p y), .bool (sureB l h p y)]) ∧ Below w.heap.size w w' := by
  cases hm : mayB l h p y
  · exact sureRound_no l h p y a w hs hm
  · obtain ⟨ho, hp, hy⟩ := may_of hm
    rcases NM.way_cases hy with rfl | rfl | rfl | rfl
    · exact sureRound_1 l h p a w hs ho hp
    · exact sureRound_2 l h p a w hs ho hp
    · exact sureRound_3 l h p a w hs ho hp
    · exact sureRound_4 l h p a w hs ho hp





end SW
end Go.Proofs.YtfdkpcejjcifgauGreatDoor
