/-
  SpanMul, SpanDiv, SpanRoot, and a number within a span: a contract each.
-/
import Derived.Test.YtiidbbnclhknpaaDoorRows
import Derived.Test.YtiidbbnclhknpaaDoorSpanMath
import Derived.Test.YtiidbbnclhknpaaDoorNumWalks
import Derived.Test.YtiidbbnclhknpaaDoorSpanFits
import Derived.Test.YtiidbbnclhknpaaDoorQuietTail
import Derived.Test.YtiidbbnclhknpaaDoorLoose
import Derived.Test.YtiidbbnclhknpaaDoorSpanWalks
import Derived.Test.YtiidbbnclhknpaaDoorSpanWalks2
import Derived.WalkKit
import Derived.Below
import Derived.Lib.MinMax
namespace Go.Proofs.YtiidbbnclhknpaaDoor
open Go.RowKit Go.Sort
set_option linter.unusedVariables false
namespace SW
open SM

theorem mul_no {sl sh tl th : Int} (h : bothB sl sh tl th = false) : mulB sl sh tl th = false := by simp [mulB, h]
theorem mul_yes {sl sh tl th : Int} (h : bothB sl sh tl th = true) : okS (mulLo sl sh tl th) (mulHi sl sh tl th) = mulB sl sh tl th := by simp [mulB, h]
theorem div_no {sl sh tl th : Int} (h : bothB sl sh tl th = false) : divB sl sh tl th = false := by simp [divB, h]
theorem div_no2 {sl sh tl th : Int} (h : apartB tl th = false) : divB sl sh tl th = false := by simp [divB, h]
theorem div_yes {sl sh tl th : Int} (h : bothB sl sh tl th = true) (k : apartB tl th = true) : okS (divLo sl sh tl th) (divHi sl sh tl th) = divB sl sh tl th := by simp [divB, h, k]
theorem has_zero {tl th : Int} (h : okS tl th = true) : hasB tl th 0 1 = !apartB tl th := by
  rw [has_yes h (by decide)]
  unfold apartB
  rw [Bool.not_not]
  congr 1
  · congr 1; apply propext; omega
  · congr 1; apply propext; omega

/-- In a region: the one operation that makes a block of two numbers. -/
def ndBox (base k : Nat) : Nat → Option (Value → World → Prop) := fun i => if i = k then some (fun u w' => ∃ b, u = .pointer (some ⟨b, 0, none⟩) ∧ base ≤ b ∧ Box w' b 0 0) else none
theorem ndBox_keeps {base k : Nat} {w w' : World} (h : Below w.heap.size w w') : LR.Keeps (ndBox base k) w w' := by
  intro i Φ u hi hΦ
  unfold ndBox at hi
  split at hi
  · cases hi
    obtain ⟨b, rfl, hb, X⟩ := hΦ
    exact ⟨b, rfl, hb, X.kept h⟩
  · cases hi
abbrev Cl (w : World) : Nat → World → Prop := fun _ w' => ∃ p : Regrown, w' = grow (redrawn w p.d) p.os
theorem Cl.start (w : World) (n : Nat) : Cl w n { w with drawn := w.drawn + 1 } := ⟨⟨w.drawn + 1, #[]⟩, by rw [grow_empty]; rfl⟩
theorem loose_of {f : FuncId} {args : Array Value} {w : World} {d : Nat} {os : Array Obj} {v : Value} {base k : Nat}
    (h : Calls Tryd.prog f args (grow (redrawn w d) os) fun e w' => e = .returned v ∧ Below (grow (redrawn w d) os).heap.size (grow (redrawn w d) os) w') :
    Calls Tryd.prog f args (grow (redrawn w d) os) fun e w'' => e = .returned v ∧ (∃ p : Regrown, w'' = grow (redrawn w p.d) p.os) ∧ LR.Keeps (ndBox base k) (grow (redrawn w d) os) w'' :=
  h.mono fun _ _ ⟨he, hb⟩ => ⟨he, regrown_of_below (below1 (below_regrown w d os) hb), ndBox_keeps hb⟩
theorem alloc_loose (w : World) (d : Nat) (os : Array Obj) (k : Nat) (t : TypeId) (m : Nat) (hm : m = (grow (redrawn w d) os).heap.size) : (∃ p : Regrown, (grow (redrawn w d) os).alloc (.cells #[.int .i64 0, .int .i64 0] t) = grow (redrawn w p.d) p.os) ∧
    (∃ b, Value.pointer (some ⟨m, 0, none⟩) = .pointer (some ⟨b, 0, none⟩) ∧ w.heap.size ≤ b ∧ Box ((grow (redrawn w d) os).alloc (.cells #[.int .i64 0, .int .i64 0] t)) b 0 0) ∧
    LR.Keeps (ndBox w.heap.size k) (grow (redrawn w d) os) ((grow (redrawn w d) os).alloc (.cells #[.int .i64 0, .int .i64 0] t)) :=
  ⟨regrown_of_below (below1 (below_regrown w d os) (below_new _ _)), ⟨_, rfl, hm ▸ (below_regrown w d os).size, hm ▸ Box.new _ 0 0 t⟩, ndBox_keeps (below_new _ _)⟩
theorem below_setBox {w w1 : World} {b : Nat} (B : Below w.heap.size w w1) (hb : w.heap.size ≤ b) (u v : Value) : Below w.heap.size w ((w1.setCell ⟨b, 0, none⟩ u).setCell ⟨b, 1, none⟩ v) := below_set2 B hb u v

theorem product_any (x y : Int) (w : World) (h1 : -1073000000 ≤ x) (h2 : x ≤ 1073000000) (h3 : -1073000000 ≤ y) (h4 : y ≤ 1073000000) :
    Calls Tryd.prog 28 #[.int .i64 x, .int .i64 y] w fun e w' => e = .returned (spV (NM.down (x * y) 1000000000) (NM.up (x * y) 1000000000)) ∧ Below w.heap.size w w' := by
  obtain ⟨m1, m2⟩ := mul_max h1 h2 h3 h4
  go_enter Tryd.func28, Tryd.ntmps28
  go_wp2_with fail
  refine (NW.roundDown_any _ _ _ (by omega) (by omega) (by omega) (by omega)).mono ?_
  rintro e w' ⟨rfl, rfl⟩
  go_wp2_with fail
  refine (NW.roundUp_any _ _ _ (by omega) (by omega) (by omega) (by omega)).mono ?_
  rintro e w' ⟨rfl, rfl⟩
  go_wp2
  refine bodyPost_ret (v := .agg #[.int .i64 (NM.down (x * y) 1000000000), .int .i64 (NM.up (x * y) 1000000000)]) (by simp [results, Tryd.results28, go_sem]) rfl ⟨rfl, ?_⟩
  exact below_new _ _

set_option maxHeartbeats 4000000 in
theorem endsMul_any (sl sh tl th : Int) (w : World) (o1 : -1073000000 ≤ sl) (o2 : sl ≤ sh) (o3 : sh ≤ 1073000000) (p1 : -1073000000 ≤ tl) (p2 : tl ≤ th) (p3 : th ≤ 1073000000) :
    Calls Tryd.prog 27 #[spV sl sh, spV tl th, .func (.func 28) #[] #[]] w fun e w' => e = .returned (spV (min (min (NM.down (sl * tl) 1000000000) (NM.down (sl * th) 1000000000)) (min (NM.down (sh * tl) 1000000000) (NM.down (sh * th) 1000000000))) (max (max (NM.up (sl * tl) 1000000000) (NM.up (sl * th) 1000000000)) (max (NM.up (sh * tl) 1000000000) (NM.up (sh * th) 1000000000)))) ∧ Below w.heap.size w w' := by
  generalize hw1 : ((w.alloc (.cells #[.int .i64 sl, .int .i64 sh] 26)).alloc (.cells #[.int .i64 tl, .int .i64 th] 26)).alloc (.cells #[.int .i64 0, .int .i64 0] 26) = w1
  have B : Below w.heap.size w w1 := hw1 ▸ below_new3 w _ _ _
  have T : Two w1 w.heap.size sl sh tl th := hw1 ▸ Two.new w sl sh tl th 26
  have k0 := cell_regrown T.s.c0
  have k1 := cell_regrown T.s.c1
  have k2 := cell_regrown T.t.c0
  have k3 := cell_regrown T.t.c1
  have q1 : ∀ d os, Calls Tryd.prog 28 #[.int .i64 sl, .int .i64 tl] (grow (redrawn w1 d) os) fun e w'' => e = .returned (spV (NM.down (sl * tl) 1000000000) (NM.up (sl * tl) 1000000000)) ∧ (∃ p : Regrown, w'' = grow (redrawn w1 p.d) p.os) ∧ LR.Keeps (ndBox w1.heap.size 13) (grow (redrawn w1 d) os) w'' := fun d os => loose_of (product_any sl tl _ (by omega) (by omega) (by omega) (by omega))
  have q2 : ∀ d os, Calls Tryd.prog 28 #[.int .i64 sl, .int .i64 th] (grow (redrawn w1 d) os) fun e w'' => e = .returned (spV (NM.down (sl * th) 1000000000) (NM.up (sl * th) 1000000000)) ∧ (∃ p : Regrown, w'' = grow (redrawn w1 p.d) p.os) ∧ LR.Keeps (ndBox w1.heap.size 13) (grow (redrawn w1 d) os) w'' := fun d os => loose_of (product_any sl th _ (by omega) (by omega) (by omega) (by omega))
  have q3 : ∀ d os, Calls Tryd.prog 45 #[spV (NM.down (sl * tl) 1000000000) (NM.up (sl * tl) 1000000000), spV (NM.down (sl * th) 1000000000) (NM.up (sl * th) 1000000000)] (grow (redrawn w1 d) os) fun e w'' => e = .returned (spV (min (NM.down (sl * tl) 1000000000) (NM.down (sl * th) 1000000000)) (max (NM.up (sl * tl) 1000000000) (NM.up (sl * th) 1000000000))) ∧ (∃ p : Regrown, w'' = grow (redrawn w1 p.d) p.os) ∧ LR.Keeps (ndBox w1.heap.size 13) (grow (redrawn w1 d) os) w'' := fun d os => loose_of (hull_any _ _ _ _ _)
  go_enter Tryd.func27, Tryd.ntmps27
  go_wp2_with fail
  refine LR.region (Cl w1) (ndBox w1.heap.size 13) 14 [0, 1, 2, 3, 4, 5, 6, 7, 8, 9, 10, 11, 12, 13] (by kernel_rfl) (by kernel_rfl) (fun _ _ h => h) (Cl.start w1 14) ?_
  iterate 5 (refine LR.stepD rfl rfl (fun N hN => ?_); go_simp; apply Exists.intro; refine ⟨fun _ _ => ?_, hN _ _ ?_⟩; exact And.intro rfl rfl; clear hN N)
  refine LR.stepD rfl rfl (fun N hN => ?_)
  go_simp
  apply Exists.intro
  refine ⟨fun _ _ => ?_, hN _ _ ?_⟩
  exact And.intro rfl (q1 _ _)
  clear hN N
  iterate 5 (refine LR.stepD rfl rfl (fun N hN => ?_); go_simp; apply Exists.intro; refine ⟨fun _ _ => ?_, hN _ _ ?_⟩; exact And.intro rfl rfl; clear hN N)
  refine LR.stepD rfl rfl (fun N hN => ?_)
  go_simp
  apply Exists.intro
  refine ⟨fun _ _ => ?_, hN _ _ ?_⟩
  exact And.intro rfl (q2 _ _)
  clear hN N
  refine LR.stepD rfl rfl (fun N hN => ?_)
  go_simp
  apply Exists.intro
  refine ⟨fun _ _ => ?_, hN _ _ ?_⟩
  exact And.intro rfl (q3 _ _)
  clear hN N
  refine LR.stepN rfl rfl (fun N hN => ?_)
  go_simp
  refine ⟨fun f p => alloc_loose w1 p.d p.os 13 _ _ (by simp [grow]), ?_⟩
  rintro u _ bw2 rfl hbw2 _
  refine hN _ _ ?_
  clear hN N q1 q2 q3 k0 k1 k2 k3
  refine LR.lexEnd ?_
  rintro w2 ⟨p, rfl⟩ kn
  have B2 := below_regrown w1 p.d p.os
  obtain ⟨_, eb, _, Xw2⟩ := kn _ (List.mem_cons_self ..) _ rfl
  cases eb
  clear kn
  generalize grow (redrawn w1 p.d) p.os = w2 at *
  simp only [List.drop]
  have hB := B.size
  have hr := T.r.lt
  obtain ⟨x0, x1, y0, y1⟩ := Xw2
  generalize hw3 : (w2.setCell ⟨bw2, 0, none⟩ (.int .i64 (min (NM.down (sl * tl) 1000000000) (NM.down (sl * th) 1000000000)))).setCell ⟨bw2, 1, none⟩ (.int .i64 (max (NM.up (sl * tl) 1000000000) (NM.up (sl * th) 1000000000))) = w3
  have B3 : Below w1.heap.size w1 w3 := hw3 ▸ below_set2 B2 hbw2 _ _
  have X3 : Box w3 bw2 (min (NM.down (sl * tl) 1000000000) (NM.down (sl * th) 1000000000)) (max (NM.up (sl * tl) 1000000000) (NM.up (sl * th) 1000000000)) := hw3 ▸ (show Box w2 bw2 0 0 from ⟨x0, x1, y0, y1⟩).set _ _
  replace T := T.kept B3
  replace B := below1 B B3
  clear B2
  have k0 := cell_regrown T.s.c0
  have k1 := cell_regrown T.s.c1
  have k2 := cell_regrown T.t.c0
  have k3 := cell_regrown T.t.c1
  have q1 : ∀ d os, Calls Tryd.prog 28 #[.int .i64 sh, .int .i64 tl] (grow (redrawn w3 d) os) fun e w'' => e = .returned (spV (NM.down (sh * tl) 1000000000) (NM.up (sh * tl) 1000000000)) ∧ (∃ p : Regrown, w'' = grow (redrawn w3 p.d) p.os) ∧ LR.Keeps (ndBox w3.heap.size 13) (grow (redrawn w3 d) os) w'' := fun d os => loose_of (product_any sh tl _ (by omega) (by omega) (by omega) (by omega))
  have q2 : ∀ d os, Calls Tryd.prog 28 #[.int .i64 sh, .int .i64 th] (grow (redrawn w3 d) os) fun e w'' => e = .returned (spV (NM.down (sh * th) 1000000000) (NM.up (sh * th) 1000000000)) ∧ (∃ p : Regrown, w'' = grow (redrawn w3 p.d) p.os) ∧ LR.Keeps (ndBox w3.heap.size 13) (grow (redrawn w3 d) os) w'' := fun d os => loose_of (product_any sh th _ (by omega) (by omega) (by omega) (by omega))
  have q3 : ∀ d os, Calls Tryd.prog 45 #[spV (NM.down (sh * tl) 1000000000) (NM.up (sh * tl) 1000000000), spV (NM.down (sh * th) 1000000000) (NM.up (sh * th) 1000000000)] (grow (redrawn w3 d) os) fun e w'' => e = .returned (spV (min (NM.down (sh * tl) 1000000000) (NM.down (sh * th) 1000000000)) (max (NM.up (sh * tl) 1000000000) (NM.up (sh * th) 1000000000))) ∧ (∃ p : Regrown, w'' = grow (redrawn w3 p.d) p.os) ∧ LR.Keeps (ndBox w3.heap.size 13) (grow (redrawn w3 d) os) w'' := fun d os => loose_of (hull_any _ _ _ _ _)
  go_wp2_with fail
  clear hw3 x0 x1 y0 y1
  refine LR.region (Cl w3) (ndBox w3.heap.size 13) 14 [0, 1, 2, 3, 4, 5, 6, 7, 8, 9, 10, 11, 12, 13] (by kernel_rfl) (by kernel_rfl) (fun _ _ h => h) (Cl.start w3 14) ?_
  iterate 5 (refine LR.stepD rfl rfl (fun N hN => ?_); go_simp; apply Exists.intro; refine ⟨fun _ _ => ?_, hN _ _ ?_⟩; exact And.intro rfl rfl; clear hN N)
  refine LR.stepD rfl rfl (fun N hN => ?_)
  go_simp
  apply Exists.intro
  refine ⟨fun _ _ => ?_, hN _ _ ?_⟩
  exact And.intro rfl (q1 _ _)
  clear hN N
  iterate 5 (refine LR.stepD rfl rfl (fun N hN => ?_); go_simp; apply Exists.intro; refine ⟨fun _ _ => ?_, hN _ _ ?_⟩; exact And.intro rfl rfl; clear hN N)
  refine LR.stepD rfl rfl (fun N hN => ?_)
  go_simp
  apply Exists.intro
  refine ⟨fun _ _ => ?_, hN _ _ ?_⟩
  exact And.intro rfl (q2 _ _)
  clear hN N
  refine LR.stepD rfl rfl (fun N hN => ?_)
  go_simp
  apply Exists.intro
  refine ⟨fun _ _ => ?_, hN _ _ ?_⟩
  exact And.intro rfl (q3 _ _)
  clear hN N
  refine LR.stepN rfl rfl (fun N hN => ?_)
  go_simp
  refine ⟨fun f p => alloc_loose w3 p.d p.os 13 _ _ (by simp [grow]), ?_⟩
  rintro u _ bw4 rfl hbw4 _
  refine hN _ _ ?_
  clear hN N q1 q2 q3 k0 k1 k2 k3
  refine LR.lexEnd ?_
  rintro w4 ⟨p, rfl⟩ kn
  have B2 := below_regrown w3 p.d p.os
  obtain ⟨_, eb, _, Xw4⟩ := kn _ (List.mem_cons_self ..) _ rfl
  cases eb
  clear kn
  generalize grow (redrawn w3 p.d) p.os = w4 at *
  simp only [List.drop]
  obtain ⟨x0, x1, y0, y1⟩ := Xw4
  generalize hw5 : (w4.setCell ⟨bw4, 0, none⟩ (.int .i64 (min (NM.down (sh * tl) 1000000000) (NM.down (sh * th) 1000000000)))).setCell ⟨bw4, 1, none⟩ (.int .i64 (max (NM.up (sh * tl) 1000000000) (NM.up (sh * th) 1000000000))) = w5
  have B5 : Below w3.heap.size w3 w5 := hw5 ▸ below_set2 B2 hbw4 _ _
  obtain ⟨d0, d1, g0, g1⟩ : Box w5 bw4 (min (NM.down (sh * tl) 1000000000) (NM.down (sh * th) 1000000000)) (max (NM.up (sh * tl) 1000000000) (NM.up (sh * th) 1000000000)) := hw5 ▸ (show Box w4 bw4 0 0 from ⟨x0, x1, y0, y1⟩).set _ _
  obtain ⟨c0, c1, f0, f1⟩ := X3.kept B5
  have R := (T.kept B5).r
  replace B := below1 B B5
  clear B2 B5 B3 T X3
  go_wp2_with fail
  refine (hull_any _ _ _ _ _).mono ?_
  rintro e w6 ⟨rfl, B6⟩
  obtain ⟨e0, e1, i0, i1⟩ := R.kept B6
  replace B := below1 B B6
  clear B6 hw5
  go_wp2
  refine bodyPost_ret (v := .agg #[.int .i64 (min (min (NM.down (sl * tl) 1000000000) (NM.down (sl * th) 1000000000)) (min (NM.down (sh * tl) 1000000000) (NM.down (sh * th) 1000000000))), .int .i64 (max (max (NM.up (sl * tl) 1000000000) (NM.up (sl * th) 1000000000)) (max (NM.up (sh * tl) 1000000000) (NM.up (sh * th) 1000000000)))]) (by simp [results, Tryd.results27, go_sem, *]) rfl ⟨rfl, ?_⟩
  exact below_set2 B (by omega) _ _


theorem spanMul_any (sl sh tl th : Int) (a : Addr) (w : World) (hs : Sn a w) :
    Calls Tryd.prog 8 #[spV sl sh, spV tl th] w fun e w' => e = .returned (.tuple #[spV (sel (mulB sl sh tl th) (mulLo sl sh tl th)) (sel (mulB sl sh tl th) (mulHi sl sh tl th)), .bool (mulB sl sh tl th)]) ∧ Below w.heap.size w w' := by
  go_enter Tryd.func8, Tryd.ntmps8
  go_wp2_with fail
  refine (spanOk_any sl sh a _ (((hs.alloc _).alloc _).alloc _)).mono ?_
  rintro e w2 ⟨rfl, B2⟩
  have B := below1 (below_new3 w _ _ _) B2
  have hs2 := (((hs.alloc _).alloc _).alloc _).kept B2
  have T := (Two.new w sl sh tl th 26).kept B2
  clear B2
  cases ho : okS sl sh
  · obtain ⟨⟨c0, c1, f0, f1⟩, ⟨d0, d1, g0, g1⟩, ⟨e0, e1, i0, i1⟩⟩ := T
    go_wp2
    refine bodyPost_ret (v := .tuple #[.agg #[.int .i64 0, .int .i64 0], .bool false]) (by simp [results, Tryd.results8, go_sem, *]) rfl ⟨by rw [mul_no (both_no1 ho)]; rfl, ?_⟩
    exact below_set2 B (by omega) _ _
  · obtain ⟨d0, d1, g0, g1⟩ := T.t
    go_wp2_with fail
    refine (spanOk_any tl th a _ hs2).mono ?_
    rintro e w3 ⟨rfl, B3⟩
    replace B := below1 B B3
    have hs3 := hs2.kept B3
    replace T := T.kept B3
    clear B3 d0 d1 g0 g1
    obtain ⟨⟨c0, c1, f0, f1⟩, ⟨d0, d1, g0, g1⟩, R⟩ := T
    cases hp : okS tl th
    · obtain ⟨e0, e1, i0, i1⟩ := R
      go_wp2
      refine bodyPost_ret (v := .tuple #[.agg #[.int .i64 0, .int .i64 0], .bool false]) (by simp [results, Tryd.results8, go_sem, *]) rfl ⟨by rw [mul_no (both_no2 hp)]; rfl, ?_⟩
      exact below_set2 B (by omega) _ _
    · have hb : bothB sl sh tl th = true := both_mk ho hp
      obtain ⟨o1, o2, o3⟩ := okS_of ho
      obtain ⟨p1, p2, p3⟩ := okS_of hp
      go_wp2_with fail
      refine (endsMul_any sl sh tl th _ o1 o2 o3 p1 p2 p3).mono ?_
      rintro e w4 ⟨rfl, B4⟩
      rw [← mulLo, ← mulHi]
      have hs4 := hs3.kept B4
      replace R := R.kept B4
      replace B := below1 B B4
      clear B4
      go_wp2_with fail
      refine (told_any _ _ a _ hs4).mono ?_
      rintro e w5 ⟨rfl, B5⟩
      obtain ⟨e0, e1, i0, i1⟩ := R.kept B5
      replace B := below1 B B5
      rw [fit_okS mul_le, mul_yes hb]
      clear B5
      go_wp2
      refine bodyPost_ret (v := .tuple #[.agg #[.int .i64 (sel (mulB sl sh tl th) (mulLo sl sh tl th)), .int .i64 (sel (mulB sl sh tl th) (mulHi sl sh tl th))], .bool (mulB sl sh tl th)]) (by simp [results, Tryd.results8, go_sem, *]) rfl ⟨rfl, ?_⟩
      exact below_set2 B (by omega) _ _

def fourLo (x y z u : Int) : Int := min (min x y) (min z u)
def fourHi (x y z u : Int) : Int := max (max x y) (max z u)
theorem ret_four {a b c d : Int} (h : a = b) (g : c = d) : Ending.returned (.tuple #[.int .i64 a, .int .i64 c]) = .returned (.tuple #[.int .i64 b, .int .i64 d]) := by rw [h, g]
theorem l2Four_any (x y z u : Int) (w : World) :
    Calls Tryd.prog 38 #[.int .i64 x, .int .i64 y, .int .i64 z, .int .i64 u] w fun e w' => e = .returned (.tuple #[.int .i64 (fourLo x y z u), .int .i64 (fourHi x y z u)]) ∧ w' = w := by
  go_enter Tryd.func38, Tryd.ntmps38
  go_wp2
  go_ret2
  exact ⟨ret_four (by unfold fourLo; omega) (by unfold fourHi; omega), rfl⟩
theorem mulLo_four (sl sh tl th : Int) : NM.down (fourLo (sl * tl) (sl * th) (sh * tl) (sh * th)) 1000000000 = mulLo sl sh tl th := mulLo_min
theorem mulHi_four (sl sh tl th : Int) : NM.up (fourHi (sl * tl) (sl * th) (sh * tl) (sh * th)) 1000000000 = mulHi sl sh tl th := mulHi_max
theorem divLo_four (sl sh tl th : Int) : fourLo (qd sl tl) (qd sl th) (qd sh tl) (qd sh th) = divLo sl sh tl th := rfl
theorem divHi_four (sl sh tl th : Int) : fourHi (qu sl tl) (qu sl th) (qu sh tl) (qu sh th) = divHi sl sh tl th := rfl

theorem sSpanMul_any (sl sh tl th : Int) (w : World) :
    Calls Tryd.prog 19 #[spV sl sh, spV tl th] w fun e w' => e = .returned (.tuple #[spV (sel (mulB sl sh tl th) (mulLo sl sh tl th)) (sel (mulB sl sh tl th) (mulHi sl sh tl th)), .bool (mulB sl sh tl th)]) ∧ Below w.heap.size w w' := by
  go_enter Tryd.func19, Tryd.ntmps19
  go_wp2_with fail
  refine (sSpanOk_any sl sh _).mono ?_
  rintro e w2 ⟨rfl, B2⟩
  have B := below1 (below_new3 w _ _ _) B2
  have T := (Two.new w sl sh tl th 26).kept B2
  clear B2
  cases ho : okS sl sh
  · obtain ⟨⟨c0, c1, f0, f1⟩, ⟨d0, d1, g0, g1⟩, ⟨e0, e1, i0, i1⟩⟩ := T
    go_wp2
    refine bodyPost_ret (v := .tuple #[.agg #[.int .i64 0, .int .i64 0], .bool false]) (by simp [results, Tryd.results19, go_sem, *]) rfl ⟨by rw [mul_no (both_no1 ho)]; rfl, ?_⟩
    exact below_set2 B (by omega) _ _
  · obtain ⟨d0, d1, g0, g1⟩ := T.t
    go_wp2_with fail
    refine (sSpanOk_any tl th _).mono ?_
    rintro e w3 ⟨rfl, B3⟩
    replace B := below1 B B3
    replace T := T.kept B3
    clear B3 d0 d1 g0 g1
    obtain ⟨⟨c0, c1, f0, f1⟩, ⟨d0, d1, g0, g1⟩, R⟩ := T
    cases hp : okS tl th
    · obtain ⟨e0, e1, i0, i1⟩ := R
      go_wp2
      refine bodyPost_ret (v := .tuple #[.agg #[.int .i64 0, .int .i64 0], .bool false]) (by simp [results, Tryd.results19, go_sem, *]) rfl ⟨by rw [mul_no (both_no2 hp)]; rfl, ?_⟩
      exact below_set2 B (by omega) _ _
    · have hb : bothB sl sh tl th = true := both_mk ho hp
      obtain ⟨o1, o2, o3⟩ := okS_of ho
      obtain ⟨p1, p2, p3⟩ := okS_of hp
      have m1 := mul_max o1 (by omega) p1 (by omega)
      have m2 := mul_max o1 (by omega) (show -1073000000 ≤ th by omega) p3
      have m3 := mul_max (show -1073000000 ≤ sh by omega) o3 p1 (by omega)
      have m4 := mul_max (show -1073000000 ≤ sh by omega) o3 (show -1073000000 ≤ th by omega) p3
      have b1 : -1152921504606846976 ≤ fourLo (sl * tl) (sl * th) (sh * tl) (sh * th) ∧ fourLo (sl * tl) (sl * th) (sh * tl) (sh * th) ≤ 1152921504606846976 := by unfold fourLo; omega
      have b2 : -1152921504606846976 ≤ fourHi (sl * tl) (sl * th) (sh * tl) (sh * th) ∧ fourHi (sl * tl) (sl * th) (sh * tl) (sh * th) ≤ 1152921504606846976 := by unfold fourHi; omega
      go_wp2_with fail
      refine (l2Four_any _ _ _ _ _).mono ?_
      rintro e w' ⟨rfl, rfl⟩
      go_wp2_with fail
      refine (NW.l1Down_any _ _ _ (by omega) (by omega) (by omega) (by omega)).mono ?_
      rintro e w' ⟨rfl, rfl⟩
      go_wp2_with fail
      refine (NW.l1Up_any _ _ _ (by omega) (by omega) (by omega) (by omega)).mono ?_
      rintro e w' ⟨rfl, rfl⟩
      rw [mulLo_four, mulHi_four]
      go_wp2_with fail
      refine (l2Fit_any _ _ _).mono ?_
      rintro e w4 ⟨rfl, B4⟩
      obtain ⟨e0, e1, i0, i1⟩ := R.kept B4
      replace B := below1 B B4
      rw [mul_yes hb]
      clear B4
      go_wp2
      refine bodyPost_ret (v := .tuple #[.agg #[.int .i64 (sel (mulB sl sh tl th) (mulLo sl sh tl th)), .int .i64 (sel (mulB sl sh tl th) (mulHi sl sh tl th))], .bool (mulB sl sh tl th)]) (by simp [results, Tryd.results19, go_sem, *]) rfl ⟨rfl, ?_⟩
      exact below_set2 B (by omega) _ _





end SW
end Go.Proofs.YtiidbbnclhknpaaDoor
