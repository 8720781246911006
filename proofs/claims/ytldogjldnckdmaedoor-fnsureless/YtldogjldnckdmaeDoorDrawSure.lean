/-
  The draws of chapter 3: a span, parts and a way; two spans; a span.
-/
import Derived.Test.YtldogjldnckdmaeDoorRows
import Derived.Test.YtldogjldnckdmaeDoorDrawKit
import Derived.Test.YtldogjldnckdmaeDoorDrawWalks
import Derived.Test.YtldogjldnckdmaeDoorDrawBig
import Derived.Test.YtldogjldnckdmaeDoorDrawNum
import Derived.Test.YtldogjldnckdmaeDoorDrawSpan
import Derived.Test.YtldogjldnckdmaeDoorDrawSpan2
import Derived.Test.YtldogjldnckdmaeDoorDrawSpan3
import Derived.Test.YtldogjldnckdmaeDoorDrawSpan4
import Derived.Test.YtldogjldnckdmaeDoorDrawSpan5
import Derived.Test.YtldogjldnckdmaeDoorSpanWalks
import Derived.Test.YtldogjldnckdmaeDoorLoose2
import Derived.Test.YtldogjldnckdmaeDoorLoose3
import Derived.WalkKit
import Derived.Below
namespace Go.Proofs.YtldogjldnckdmaeDoor
open Go.RowKit Go.Sort
set_option linter.unusedVariables false

namespace DW
open DK SW

theorem drawSureLess_any (w : World) (a : Option Addr) (len cap : Nat) (h : Src w a len cap) :
    Calls Tryd.prog 20 #[.slice a len cap] w fun e w' => ∃ sl sh tl th : Int, e = .returned (.tuple #[spV sl sh, spV tl th]) ∧ -1073000600 ≤ sl ∧ sl ≤ 1073000600 ∧ -1073000600 ≤ sh ∧ sh ≤ 1073000600 ∧ -1073000600 ≤ tl ∧ tl ≤ 1073000600 ∧ -1073000600 ≤ th ∧ th ≤ 1073000600 ∧ Below w.heap.size w w' := by
  go_enter Tryd.func20, Tryd.ntmps20
  go_wp2_with fail
  refine (drawSpanMeet_any _ _ _ _ ((h.kept (below_new w _)).kept (below_new _ _))).mono ?_
  rintro e w1 ⟨sl, sh, tl, th, rfl, l0, l1, h0, h1, m0, m1, n0, n1, B1⟩
  obtain ⟨a0, a1, a2, a3⟩ := ((Box.new w 0 0 24).alloc _).kept B1
  obtain ⟨b0, b1, b2, b3⟩ := (Box.new2 w _ 0 0 24).kept B1
  have B := below1 (below_new2 w _ _) B1
  clear B1
  go_wp2
  refine bodyPost_ret (v := .tuple #[.agg #[.int .i64 sl, .int .i64 sh], .agg #[.int .i64 tl, .int .i64 th]]) (by simp [results, Tryd.results20, go_sem, *]) rfl ⟨_, _, _, _, rfl, l0, l1, h0, h1, m0, m1, n0, n1, ?_⟩
  exact below_set2 (below_set2 B (by omega) _ _) (by omega) _ _

theorem drawSureSign_any (w : World) (a : Option Addr) (len cap : Nat) (h : Src w a len cap) :
    Calls Tryd.prog 24 #[.slice a len cap] w fun e w' => ∃ sl sh : Int, e = .returned (spV sl sh) ∧ -1073000500 ≤ sl ∧ sl ≤ 1073000500 ∧ -1073000500 ≤ sh ∧ sh ≤ 1073000500 ∧ Below w.heap.size w w' := by
  go_enter Tryd.func24, Tryd.ntmps24
  go_wp2_with fail
  refine (l6Open_any _ _ _ _ (h.kept (below_new w _))).mono ?_
  rintro e w1 ⟨rfl, R1, B1⟩
  have Y := (Box.new w 0 0 24).kept B1
  have B := below1 (below_new w _) B1
  have hk : w.heap.size + 1 ≤ (w.alloc (.cells #[.int .i64 0, .int .i64 0] 24)).heap.size := by simp
  generalize hkk : (w.alloc (.cells #[.int .i64 0, .int .i64 0] 24)).heap.size = k at *
  clear B1 h hkk
  go_wp2_with fail
  refine (pick_any _ _ _ _ (by omega) R1).mono ?_
  rintro e w2 ⟨v, rfl, v0, v1, R2, T2⟩
  replace v1 := v1 (by omega)
  replace Y := Box.tch Y T2 Y.lt (by omega)
  replace B := B.trans (T2.toBelow B.size (by omega))
  clear T2 R1
  rcases (show v = 0 ∨ 1 ≤ v by omega) with rfl | v2
  · go_wp2_with fail
    refine (pick_any _ _ _ _ (by omega) R2).mono ?_
    rintro e w3 ⟨x, rfl, x0, x1, R3, T3⟩
    replace x1 := x1 (by omega)
    replace Y := Box.tch Y T3 Y.lt (by omega)
    replace B := B.trans (T3.toBelow B.size (by omega))
    clear T3 R2
    go_wp2_with fail
    refine (pick_any _ _ _ _ (by omega) R3).mono ?_
    rintro e w4 ⟨y, rfl, y0, y1, R4, T4⟩
    replace y1 := y1 (by omega)
    obtain ⟨c0, c1, c2, c3⟩ := Box.tch Y T4 Y.lt (by omega)
    replace B := B.trans (T4.toBelow B.size (by omega))
    clear T4 R3
    go_wp2
    refine bodyPost_ret (v := .agg #[.int .i64 (x - 1), .int .i64 (y - 1)]) (by simp [results, Tryd.results24, go_sem, *]) rfl ⟨_, _, rfl, by omega, by omega, by omega, by omega, ?_⟩
    exact below_set2 B (by omega) _ _
  · have e0 : (v == 0) = false := by simp; omega
    go_wp2_with fail
    refine (l71Span_any _ _ _ (by omega) R2).mono ?_
    rintro e w3 ⟨sl, sh, p3, rfl, l0, l1, h0, h1, q3, R3, T3⟩
    obtain ⟨c0, c1, c2, c3⟩ := Box.tch Y T3 Y.lt (by omega)
    replace B := B.trans (T3.toBelow B.size (by omega))
    clear T3 R2
    go_wp2
    refine bodyPost_ret (v := .agg #[.int .i64 sl, .int .i64 sh]) (by simp [results, Tryd.results24, go_sem, *]) rfl ⟨_, _, rfl, l0, l1, h0, h1, ?_⟩
    exact below_set2 B (by omega) _ _

/-- The nine parts lie in block 'c', apart from the reader and the answer. -/
structure Nine (k y : Nat) (w : World) (c : Nat) : Prop where
  k : c ≠ k
  y : c ≠ y
  c0 : w.cell? ⟨c, 0, none⟩ = some (.int .i64 1)
  c1 : w.cell? ⟨c, 1, none⟩ = some (.int .i64 10)
  c2 : w.cell? ⟨c, 2, none⟩ = some (.int .i64 1000)
  c3 : w.cell? ⟨c, 3, none⟩ = some (.int .i64 1000000)
  c4 : w.cell? ⟨c, 4, none⟩ = some (.int .i64 100000000)
  c5 : w.cell? ⟨c, 5, none⟩ = some (.int .i64 7)
  c6 : w.cell? ⟨c, 6, none⟩ = some (.int .i64 1000000000)
  c7 : w.cell? ⟨c, 7, none⟩ = some (.int .i64 0)
  c8 : w.cell? ⟨c, 8, none⟩ = some (.int .i64 1000000001)
theorem Nine.tch {k y c : Nat} {w w' : World} (h : Nine k y w c) (t : Tch k w.heap.size w w') : Nine k y w' c := by
  have e : ∀ o, w'.cell? ⟨c, o, none⟩ = w.cell? ⟨c, o, none⟩ := fun o => t.cell (DK.cell_lt h.c0) h.k
  exact ⟨h.k, h.y, (e 0).trans h.c0, (e 1).trans h.c1, (e 2).trans h.c2, (e 3).trans h.c3, (e 4).trans h.c4, (e 5).trans h.c5, (e 6).trans h.c6, (e 7).trans h.c7, (e 8).trans h.c8⟩
theorem Nine.set {k y c : Nat} {w : World} (h : Nine k y w c) (u v : Value) : Nine k y ((w.setCell ⟨y, 0, none⟩ u).setCell ⟨y, 1, none⟩ v) c := by
  have e : ∀ o, ((w.setCell ⟨y, 0, none⟩ u).setCell ⟨y, 1, none⟩ v).cell? ⟨c, o, none⟩ = w.cell? ⟨c, o, none⟩ := fun o => by
    rw [World.cell?_setCell_other _ _ _ _ (fun e => h.y (congrArg Addr.block e).symm), World.cell?_setCell_other _ _ _ _ (fun e => h.y (congrArg Addr.block e).symm)]
  exact ⟨h.k, h.y, (e 0).trans h.c0, (e 1).trans h.c1, (e 2).trans h.c2, (e 3).trans h.c3, (e 4).trans h.c4, (e 5).trans h.c5, (e 6).trans h.c6, (e 7).trans h.c7, (e 8).trans h.c8⟩
theorem Nine.new {k y : Nat} (w : World) (t : TypeId) (hk : k < w.heap.size) (hy : y < w.heap.size) : Nine k y (w.alloc (.cells #[.int .i64 1, .int .i64 10, .int .i64 1000, .int .i64 1000000, .int .i64 100000000, .int .i64 7, .int .i64 1000000000, .int .i64 0, .int .i64 1000000001] t)) w.heap.size :=
  ⟨by omega, by omega, by simp [go_sem], by simp [go_sem], by simp [go_sem], by simp [go_sem], by simp [go_sem], by simp [go_sem], by simp [go_sem], by simp [go_sem], by simp [go_sem]⟩
theorem Nine.at {z : Int} (h0 : 0 ≤ z) (h1 : z < 9) : ∃ v : Int, 0 ≤ v ∧ v ≤ 1000000001 ∧ ∀ k y w c, Nine k y w c → w.cell? ⟨c, z.toNat, none⟩ = some (.int .i64 v) := by
  rcases (show z = 0 ∨ z = 1 ∨ z = 2 ∨ z = 3 ∨ z = 4 ∨ z = 5 ∨ z = 6 ∨ z = 7 ∨ z = 8 by omega) with rfl | rfl | rfl | rfl | rfl | rfl | rfl | rfl | rfl
  · exact ⟨1, by omega, by omega, fun _ _ _ _ h => h.c0⟩
  · exact ⟨10, by omega, by omega, fun _ _ _ _ h => h.c1⟩
  · exact ⟨1000, by omega, by omega, fun _ _ _ _ h => h.c2⟩
  · exact ⟨1000000, by omega, by omega, fun _ _ _ _ h => h.c3⟩
  · exact ⟨100000000, by omega, by omega, fun _ _ _ _ h => h.c4⟩
  · exact ⟨7, by omega, by omega, fun _ _ _ _ h => h.c5⟩
  · exact ⟨1000000000, by omega, by omega, fun _ _ _ _ h => h.c6⟩
  · exact ⟨0, by omega, by omega, fun _ _ _ _ h => h.c7⟩
  · exact ⟨1000000001, by omega, by omega, fun _ _ _ _ h => h.c8⟩
def isNine (k y : Nat) (u : Value) (w : World) : Prop := ∃ c, u = .slice (some ⟨c, 0, none⟩) 9 9 ∧ Nine k y w c
def isWy (u : Value) : Prop := ∃ z : Int, u = .int .i64 z ∧ -1 ≤ z ∧ z ≤ 5
def ndG (k y : Nat) (sl sh : Int) : Nat → Option (Act → Value → World → Prop) := fun i =>
  if i = 1 then some (fun _ u w => isNine k y u w) else if i = 3 then some (fun _ u _ => isNum 9 u) else if i = 7 then some (fun _ u _ => isWy u) else if i = 8 then some (fun _ _ w => Box w y sl sh) else none
theorem ndG_local {ops : Array Oper} (k y : Nat) (sl sh : Int) : LQ.Local ops (ndG k y sl sh) := by
  intro j Φ oj hn _ a dst v _
  unfold ndG at hn
  split at hn
  · cases hn; rfl
  · split at hn
    · cases hn; rfl
    · split at hn
      · cases hn; rfl
      · split at hn
        · cases hn; rfl
        · cases hn
theorem ndG_keeps {k y : Nat} {sl sh : Int} {w w' : World} (h : ∀ c, Nine k y w c → Nine k y w' c) (g : Box w y sl sh → Box w' y sl sh) : LQ.Keeps (ndG k y sl sh) w w' := by
  intro i Φ a u hn hu
  unfold ndG at hn
  split at hn
  · cases hn
    obtain ⟨c, e, N⟩ := hu
    exact ⟨c, e, h c N⟩
  · split at hn
    · cases hn; exact hu
    · split at hn
      · cases hn; exact hu
      · split at hn
        · cases hn; exact g hu
        · cases hn
theorem alloc_g {n0 : Nat} {w0 : World} {k b y f : Nat} {sl sh : Int} (hn : n0 ≤ w0.heap.size) (q : Wh n0 w0 k b y sl sh (f + 1)) (t : TypeId) :
    Ch n0 w0 k b y sl sh f (q.w.alloc (.cells #[.int .i64 1, .int .i64 10, .int .i64 1000, .int .i64 1000000, .int .i64 100000000, .int .i64 7, .int .i64 1000000000, .int .i64 0, .int .i64 1000000001] t)) ∧ isNine k y (.slice (some ⟨q.w.heap.size, 0, none⟩) 9 9) (q.w.alloc (.cells #[.int .i64 1, .int .i64 10, .int .i64 1000, .int .i64 1000000, .int .i64 100000000, .int .i64 7, .int .i64 1000000000, .int .i64 0, .int .i64 1000000001] t)) ∧ LQ.Keeps (ndG k y sl sh) q.w (q.w.alloc (.cells #[.int .i64 1, .int .i64 10, .int .i64 1000, .int .i64 1000000, .int .i64 100000000, .int .i64 7, .int .i64 1000000000, .int .i64 0, .int .i64 1000000001] t)) := by
  obtain ⟨p, R, hp⟩ := q.rd
  obtain ⟨x, x', Y⟩ := q.y0
  have hb : Below q.w.heap.size q.w (q.w.alloc (.cells #[.int .i64 1, .int .i64 10, .int .i64 1000, .int .i64 1000000, .int .i64 100000000, .int .i64 7, .int .i64 1000000000, .int .i64 0, .int .i64 1000000001] t)) := below_new _ _
  exact ⟨⟨⟨_, ⟨p, R.alloc _, by omega⟩, q.bw.trans (hb.mono (Nat.le_trans hn q.bw.size)), q.s.alloc _, x, x', Y.alloc _⟩, rfl⟩, ⟨_, rfl, Nine.new _ _ R.lt Y.lt⟩, ndG_keeps (fun c N => N.tch (Tch.ofBelow hb)) fun X => X.alloc _⟩
theorem pick_g {n0 : Nat} {w0 : World} {k b y f : Nat} {sl sh : Int} (hb : b ≠ k) (hy : y ≠ k) (hn : n0 ≤ k) (h0 : n0 ≤ w0.heap.size) (q : Wh n0 w0 k b y sl sh (f + 1)) :
    Calls Tryd.prog 30 #[.pointer (some ⟨k, 0, none⟩), .int .i64 9] q.w fun e w'' => ∃ u, e = .returned u ∧ Ch n0 w0 k b y sl sh f w'' ∧ (∃ z : Int, u = .int .i64 z ∧ 0 ≤ z ∧ z < 9) ∧ LQ.Keeps (ndG k y sl sh) q.w w'' := by
  obtain ⟨p, R, hp⟩ := q.rd
  refine (pick_any q.w k p 9 (by omega) R).mono ?_
  rintro e w1 ⟨v, rfl, v0, v1, R1, T1⟩
  obtain ⟨x, x', Y⟩ := q.y0
  exact ⟨_, rfl, ⟨⟨w1, ⟨_, R1, by omega⟩, q.bw.trans (T1.toBelow (Nat.le_trans h0 q.bw.size) hn), Box.tch q.s T1 q.s.lt hb, x, x', Box.tch Y T1 Y.lt hy⟩, rfl⟩, ⟨v, rfl, v0, v1 (by omega)⟩, ndG_keeps (fun c N => N.tch T1) fun X => Box.tch X T1 X.lt hy⟩
theorem way_g {n0 : Nat} {w0 : World} {k b y f : Nat} {sl sh : Int} (hb : b ≠ k) (hy : y ≠ k) (hn : n0 ≤ k) (h0 : n0 ≤ w0.heap.size) (q : Wh n0 w0 k b y sl sh (f + 1)) :
    Calls Tryd.prog 41 #[.pointer (some ⟨k, 0, none⟩)] q.w fun e w'' => ∃ u, e = .returned u ∧ Ch n0 w0 k b y sl sh f w'' ∧ (∃ z : Int, u = .int .i64 z ∧ -1 ≤ z ∧ z ≤ 5) ∧ LQ.Keeps (ndG k y sl sh) q.w w'' := by
  obtain ⟨p, R, hp⟩ := q.rd
  refine (l71Way_any q.w k p (by omega) R).mono ?_
  rintro e w1 ⟨v, p', rfl, v0, v1, hp', R1, T1⟩
  obtain ⟨x, x', Y⟩ := q.y0
  exact ⟨_, rfl, ⟨⟨w1, ⟨_, R1, by omega⟩, q.bw.trans (T1.toBelow (Nat.le_trans h0 q.bw.size) hn), Box.tch q.s T1 q.s.lt hb, x, x', Box.tch Y T1 Y.lt hy⟩, rfl⟩, ⟨v, rfl, v0, v1⟩, ndG_keeps (fun c N => N.tch T1) fun X => Box.tch X T1 X.lt hy⟩
theorem store_g {n0 : Nat} {w0 : World} {k b y f : Nat} {sl sh x x' : Int} (hy : y ≠ k) (hyb : y ≠ b) (hn : n0 ≤ y) (q : Wh n0 w0 k b y sl sh (f + 1)) (Y : Box q.w y x x') :
    Ch n0 w0 k b y sl sh f ((q.w.setCell ⟨y, 0, none⟩ (.int .i64 sl)).setCell ⟨y, 1, none⟩ (.int .i64 sh)) ∧ Box ((q.w.setCell ⟨y, 0, none⟩ (.int .i64 sl)).setCell ⟨y, 1, none⟩ (.int .i64 sh)) y sl sh ∧
    LQ.Keeps (ndG k y sl sh) q.w ((q.w.setCell ⟨y, 0, none⟩ (.int .i64 sl)).setCell ⟨y, 1, none⟩ (.int .i64 sh)) := by
  obtain ⟨p, R, hp⟩ := q.rd
  have X := Y.set sl sh
  exact ⟨⟨⟨_, ⟨p, Rd.setBox R Y hy sl sh, by omega⟩, (q.bw.setCell (by simpa using hn) _).setCell (by simpa using hn) _, (q.s.apart hyb _).apart hyb _, sl, sh, X⟩, rfl⟩, X, ndG_keeps (fun c N => N.set _ _) fun _ => X⟩
set_option maxHeartbeats 4000000 in
theorem drawSureRound_any (w : World) (a : Option Addr) (len cap : Nat) (h : Src w a len cap) :
    Calls Tryd.prog 15 #[.slice a len cap] w fun e w' => ∃ sl sh pp yy : Int, e = .returned (.tuple #[spV sl sh, .int .i64 pp, .int .i64 yy]) ∧ -1073000500 ≤ sl ∧ sl ≤ 1073000500 ∧ -1073000500 ≤ sh ∧ sh ≤ 1073000500 ∧ 0 ≤ pp ∧ pp ≤ 1000000001 ∧ -1 ≤ yy ∧ yy ≤ 5 ∧ Below w.heap.size w w' := by
  go_enter Tryd.func15, Tryd.ntmps15
  go_wp2_with fail
  refine (l6Open_any _ _ _ _ (h.kept (below_new w _))).mono ?_
  rintro e w1 ⟨rfl, R1, B1⟩
  have Y := (Box.new w 0 0 24).kept B1
  have B := below1 (below_new w _) B1
  have hk : w.heap.size + 1 ≤ (w.alloc (.cells #[.int .i64 0, .int .i64 0] 24)).heap.size := by simp
  generalize hkk : (w.alloc (.cells #[.int .i64 0, .int .i64 0] 24)).heap.size = k at *
  clear B1 h hkk
  go_wp2_with fail
  refine (l71Span_any _ _ _ (by omega) R1).mono ?_
  rintro e w2 ⟨sl, sh, p2, rfl, l0, l1, h0, h1, q2, R2, T2⟩
  replace Y := Box.tch Y T2 Y.lt (by omega)
  replace B := B.trans (T2.toBelow B.size (by omega))
  have hk2 := R2.lt
  clear T2 R1
  have S := Box.new w2 sl sh 24
  replace Y := Y.alloc (.cells #[.int .i64 sl, .int .i64 sh] 24)
  replace B := below1 B (below_new w2 (.cells #[.int .i64 sl, .int .i64 sh] 24))
  replace R2 := R2.alloc (.cells #[.int .i64 sl, .int .i64 sh] 24)
  go_wp2_with fail
  refine (pick_any _ _ _ _ (by omega) R2).mono ?_
  rintro e w3 ⟨v, rfl, v0, v1, R3, T3⟩
  replace v1 := v1 (by omega)
  replace Y := Box.tch Y T3 Y.lt (by omega)
  replace S := Box.tch S T3 S.lt (by omega)
  replace B := B.trans (T3.toBelow B.size (by omega))
  clear T3 R2
  generalize w2.heap.size = b at *
  rcases (show v = 0 ∨ 0 < v by omega) with rfl | v2
  · go_wp2_with fail
    have kS0 : ∀ f (q : Wh w.heap.size w k b w.heap.size sl sh f), q.w.cell? ⟨b, 0, none⟩ = some (.int .i64 sl) := fun f q => q.s.c0
    have kS1 : ∀ f (q : Wh w.heap.size w k b w.heap.size sl sh f), q.w.cell? ⟨b, 1, none⟩ = some (.int .i64 sh) := fun f q => q.s.c1
    refine LQ.regionT (Ch w.heap.size w k b w.heap.size sl sh) (ndG k w.heap.size sl sh) 9 (.det 0 (.det 2 (.det 6 (.two 1 (.one 3 (.det 4 (.det 5 (.one 7 (.one 8 .nil))))) 3 (.two 1 (.det 4 (.det 5 (.one 7 (.one 8 .nil)))) 7 (.two 1 (.det 4 (.det 5 (.one 8 .nil))) 8 (.one 1 (.det 4 (.det 5 .nil))))))))) (ndG_local _ _ _ _) (by kernel_rfl) (by kernel_rfl) Ch.mono (Ch.start 9 R3 (by omega) B S Y) ?_
    iterate 3 (refine LQ.stepDT rfl rfl (fun N hN => ?_); go_simp; apply Exists.intro; refine ⟨fun _ _ _ => ?_, hN _ _ ?_⟩; exact And.intro rfl rfl; clear hN N)
    refine LQ.stepTwo ?_ ?_
    · refine LQ.opN rfl rfl (fun N hN => ?_)
      go_simp
      refine ⟨fun f q _ => alloc_g (Nat.le_refl _) q _, ?_⟩
      rintro u wn ⟨cn, rfl, Nn⟩
      refine hN _ _ ?_
      clear hN N Nn wn
      refine LQ.stepOne ?_
      refine LQ.opN rfl rfl (fun N hN => ?_)
      go_simp
      refine ⟨fun f q _ => And.intro rfl (pick_g (by omega) (by omega) (by omega) (Nat.le_refl _) q), ?_⟩
      rintro u ⟨z, rfl, z0, z1⟩
      refine hN _ _ ?_
      clear hN N
      obtain ⟨pv, pv0, pv1, hpv⟩ := Nine.at z0 z1
      iterate 1 (refine LQ.stepDT rfl rfl (fun N hN => ?_); go_simp; apply Exists.intro; refine ⟨fun _ _ _ => ?_, hN _ _ ?_⟩; exact And.intro rfl rfl; clear hN N)
      refine LQ.stepDT rfl rfl (fun N hN => ?_)
      go_simp
      refine ⟨.int .i64 pv, fun f q hk => ?_, hN _ _ ?_⟩
      · obtain ⟨cx, ex, Nx⟩ := (hk _ (List.mem_cons_of_mem _ (List.mem_cons_self ..))).2
        cases ex
        have hc := hpv _ _ _ _ Nx
        clear hk Nx
        go_simp
        exact ⟨rfl, rfl⟩
      clear hN N
      refine LQ.stepOne ?_
      refine LQ.opN rfl rfl (fun N hN => ?_)
      go_simp
      refine ⟨fun f q _ => And.intro rfl (way_g (by omega) (by omega) (by omega) (Nat.le_refl _) q), ?_⟩
      rintro u ⟨yw, rfl, yw0, yw1⟩
      refine hN _ _ ?_
      clear hN N
      refine LQ.stepOne ?_
      refine LQ.opN rfl rfl (fun N hN => ?_)
      go_simp
      refine ⟨fun f q _ => ?_, fun _ _ => hN _ _ ?_⟩
      · obtain ⟨x, x', X⟩ := q.y0
        have X' := X
        obtain ⟨g0, g1, g2, g3⟩ := X'
        go_simp
        exact store_g (by omega) (by omega) (Nat.le_refl _) q X
      clear hN N
      refine LQ.lexEndT ?_
      rintro w7 ⟨q, rfl⟩ kn
      have X : Box q.w w.heap.size sl sh := (kn _ (List.mem_cons_self ..)).2
      clear kn kS0 kS1 hpv
      have B7 := q.bw
      generalize q.w = w7 at *
      obtain ⟨c0, c1, c2, c3⟩ := X
      simp only [List.drop]
      go_wp2
      refine bodyPost_ret (v := .tuple #[.agg #[.int .i64 sl, .int .i64 sh], .int .i64 pv, .int .i64 yw]) (by simp [results, Tryd.results15, go_sem, *]) rfl ⟨_, _, _, _, rfl, by omega, by omega, by omega, by omega, by omega, by omega, by omega, by omega, ?_⟩
      exact B7
    · refine LQ.opN rfl rfl (fun N hN => ?_)
      go_simp
      refine ⟨fun f q _ => And.intro rfl (pick_g (by omega) (by omega) (by omega) (Nat.le_refl _) q), ?_⟩
      rintro u ⟨z, rfl, z0, z1⟩
      refine hN _ _ ?_
      clear hN N
      obtain ⟨pv, pv0, pv1, hpv⟩ := Nine.at z0 z1
      refine LQ.stepTwo ?_ ?_
      · refine LQ.opN rfl rfl (fun N hN => ?_)
        go_simp
        refine ⟨fun f q _ => alloc_g (Nat.le_refl _) q _, ?_⟩
        rintro u wn ⟨cn, rfl, Nn⟩
        refine hN _ _ ?_
        clear hN N Nn wn
        iterate 1 (refine LQ.stepDT rfl rfl (fun N hN => ?_); go_simp; apply Exists.intro; refine ⟨fun _ _ _ => ?_, hN _ _ ?_⟩; exact And.intro rfl rfl; clear hN N)
        refine LQ.stepDT rfl rfl (fun N hN => ?_)
        go_simp
        refine ⟨.int .i64 pv, fun f q hk => ?_, hN _ _ ?_⟩
        · obtain ⟨cx, ex, Nx⟩ := (hk _ (List.mem_cons_self ..)).2
          cases ex
          have hc := hpv _ _ _ _ Nx
          clear hk Nx
          go_simp
          exact ⟨rfl, rfl⟩
        clear hN N
        refine LQ.stepOne ?_
        refine LQ.opN rfl rfl (fun N hN => ?_)
        go_simp
        refine ⟨fun f q _ => And.intro rfl (way_g (by omega) (by omega) (by omega) (Nat.le_refl _) q), ?_⟩
        rintro u ⟨yw, rfl, yw0, yw1⟩
        refine hN _ _ ?_
        clear hN N
        refine LQ.stepOne ?_
        refine LQ.opN rfl rfl (fun N hN => ?_)
        go_simp
        refine ⟨fun f q _ => ?_, fun _ _ => hN _ _ ?_⟩
        · obtain ⟨x, x', X⟩ := q.y0
          have X' := X
          obtain ⟨g0, g1, g2, g3⟩ := X'
          go_simp
          exact store_g (by omega) (by omega) (Nat.le_refl _) q X
        clear hN N
        refine LQ.lexEndT ?_
        rintro w7 ⟨q, rfl⟩ kn
        have X : Box q.w w.heap.size sl sh := (kn _ (List.mem_cons_self ..)).2
        clear kn kS0 kS1 hpv
        have B7 := q.bw
        generalize q.w = w7 at *
        obtain ⟨c0, c1, c2, c3⟩ := X
        simp only [List.drop]
        go_wp2
        refine bodyPost_ret (v := .tuple #[.agg #[.int .i64 sl, .int .i64 sh], .int .i64 pv, .int .i64 yw]) (by simp [results, Tryd.results15, go_sem, *]) rfl ⟨_, _, _, _, rfl, by omega, by omega, by omega, by omega, by omega, by omega, by omega, by omega, ?_⟩
        exact B7
      · refine LQ.opN rfl rfl (fun N hN => ?_)
        go_simp
        refine ⟨fun f q _ => And.intro rfl (way_g (by omega) (by omega) (by omega) (Nat.le_refl _) q), ?_⟩
        rintro u ⟨yw, rfl, yw0, yw1⟩
        refine hN _ _ ?_
        clear hN N
        refine LQ.stepTwo ?_ ?_
        · refine LQ.opN rfl rfl (fun N hN => ?_)
          go_simp
          refine ⟨fun f q _ => alloc_g (Nat.le_refl _) q _, ?_⟩
          rintro u wn ⟨cn, rfl, Nn⟩
          refine hN _ _ ?_
          clear hN N Nn wn
          iterate 1 (refine LQ.stepDT rfl rfl (fun N hN => ?_); go_simp; apply Exists.intro; refine ⟨fun _ _ _ => ?_, hN _ _ ?_⟩; exact And.intro rfl rfl; clear hN N)
          refine LQ.stepDT rfl rfl (fun N hN => ?_)
          go_simp
          refine ⟨.int .i64 pv, fun f q hk => ?_, hN _ _ ?_⟩
          · obtain ⟨cx, ex, Nx⟩ := (hk _ (List.mem_cons_self ..)).2
            cases ex
            have hc := hpv _ _ _ _ Nx
            clear hk Nx
            go_simp
            exact ⟨rfl, rfl⟩
          clear hN N
          refine LQ.stepOne ?_
          refine LQ.opN rfl rfl (fun N hN => ?_)
          go_simp
          refine ⟨fun f q _ => ?_, fun _ _ => hN _ _ ?_⟩
          · obtain ⟨x, x', X⟩ := q.y0
            have X' := X
            obtain ⟨g0, g1, g2, g3⟩ := X'
            go_simp
            exact store_g (by omega) (by omega) (Nat.le_refl _) q X
          clear hN N
          refine LQ.lexEndT ?_
          rintro w7 ⟨q, rfl⟩ kn
          have X : Box q.w w.heap.size sl sh := (kn _ (List.mem_cons_self ..)).2
          clear kn kS0 kS1 hpv
          have B7 := q.bw
          generalize q.w = w7 at *
          obtain ⟨c0, c1, c2, c3⟩ := X
          simp only [List.drop]
          go_wp2
          refine bodyPost_ret (v := .tuple #[.agg #[.int .i64 sl, .int .i64 sh], .int .i64 pv, .int .i64 yw]) (by simp [results, Tryd.results15, go_sem, *]) rfl ⟨_, _, _, _, rfl, by omega, by omega, by omega, by omega, by omega, by omega, by omega, by omega, ?_⟩
          exact B7
        · refine LQ.opN rfl rfl (fun N hN => ?_)
          go_simp
          refine ⟨fun f q _ => ?_, fun _ _ => hN _ _ ?_⟩
          · obtain ⟨x, x', X⟩ := q.y0
            have X' := X
            obtain ⟨g0, g1, g2, g3⟩ := X'
            go_simp
            exact store_g (by omega) (by omega) (Nat.le_refl _) q X
          clear hN N
          refine LQ.stepOne ?_
          refine LQ.opN rfl rfl (fun N hN => ?_)
          go_simp
          refine ⟨fun f q _ => alloc_g (Nat.le_refl _) q _, ?_⟩
          rintro u wn ⟨cn, rfl, Nn⟩
          refine hN _ _ ?_
          clear hN N Nn wn
          iterate 1 (refine LQ.stepDT rfl rfl (fun N hN => ?_); go_simp; apply Exists.intro; refine ⟨fun _ _ _ => ?_, hN _ _ ?_⟩; exact And.intro rfl rfl; clear hN N)
          refine LQ.stepDT rfl rfl (fun N hN => ?_)
          go_simp
          refine ⟨.int .i64 pv, fun f q hk => ?_, hN _ _ ?_⟩
          · obtain ⟨cx, ex, Nx⟩ := (hk _ (List.mem_cons_self ..)).2
            cases ex
            have hc := hpv _ _ _ _ Nx
            clear hk Nx
            go_simp
            exact ⟨rfl, rfl⟩
          clear hN N
          refine LQ.lexEndT ?_
          rintro w7 ⟨q, rfl⟩ kn
          have X : Box q.w w.heap.size sl sh := (kn _ (List.mem_cons_of_mem _ (List.mem_cons_self ..))).2
          clear kn kS0 kS1 hpv
          have B7 := q.bw
          generalize q.w = w7 at *
          obtain ⟨c0, c1, c2, c3⟩ := X
          simp only [List.drop]
          go_wp2
          refine bodyPost_ret (v := .tuple #[.agg #[.int .i64 sl, .int .i64 sh], .int .i64 pv, .int .i64 yw]) (by simp [results, Tryd.results15, go_sem, *]) rfl ⟨_, _, _, _, rfl, by omega, by omega, by omega, by omega, by omega, by omega, by omega, by omega, ?_⟩
          exact B7
  · go_wp2_with fail
    refine (l71Mild_any _ _ _ (by omega) R3).mono ?_
    rintro e w4 ⟨ml, mh, p4, rfl, m0, m1, n0, n1, q4, R4, T4⟩
    replace Y := Box.tch Y T4 Y.lt (by omega)
    replace S := Box.tch S T4 S.lt (by omega)
    replace B := B.trans (T4.toBelow B.size (by omega))
    clear T4 R3
    have ⟨s0, s1, s2, s3⟩ := S
    replace R4 := Rd.setBox R4 S (by omega) ml mh
    replace Y := (Y.apart (show b ≠ w.heap.size by omega) (o := 0) (.int .i64 ml)).apart (show b ≠ w.heap.size by omega) (o := 1) (.int .i64 mh)
    replace B := below_set2 B (show w.heap.size ≤ b by omega) (.int .i64 ml) (.int .i64 mh)
    replace S := S.set ml mh
    go_wp2_with fail
    clear s0 s1 s2 s3 l0 l1 h0 h1
    generalize hw5 : (w4.setCell ⟨b, 0, none⟩ (.int .i64 ml)).setCell ⟨b, 1, none⟩ (.int .i64 mh) = w5 at *
    clear hw5
    have l0 := m0
    have l1 := m1
    have h0 := n0
    have h1 := n1
    have kS0 : ∀ f (q : Wh w.heap.size w k b w.heap.size ml mh f), q.w.cell? ⟨b, 0, none⟩ = some (.int .i64 ml) := fun f q => q.s.c0
    have kS1 : ∀ f (q : Wh w.heap.size w k b w.heap.size ml mh f), q.w.cell? ⟨b, 1, none⟩ = some (.int .i64 mh) := fun f q => q.s.c1
    refine LQ.regionT (Ch w.heap.size w k b w.heap.size ml mh) (ndG k w.heap.size ml mh) 9 (.det 0 (.det 2 (.det 6 (.two 1 (.one 3 (.det 4 (.det 5 (.one 7 (.one 8 .nil))))) 3 (.two 1 (.det 4 (.det 5 (.one 7 (.one 8 .nil)))) 7 (.two 1 (.det 4 (.det 5 (.one 8 .nil))) 8 (.one 1 (.det 4 (.det 5 .nil))))))))) (ndG_local _ _ _ _) (by kernel_rfl) (by kernel_rfl) Ch.mono (Ch.start 9 R4 (by omega) B S Y) ?_
    iterate 3 (refine LQ.stepDT rfl rfl (fun N hN => ?_); go_simp; apply Exists.intro; refine ⟨fun _ _ _ => ?_, hN _ _ ?_⟩; exact And.intro rfl rfl; clear hN N)
    refine LQ.stepTwo ?_ ?_
    · refine LQ.opN rfl rfl (fun N hN => ?_)
      go_simp
      refine ⟨fun f q _ => alloc_g (Nat.le_refl _) q _, ?_⟩
      rintro u wn ⟨cn, rfl, Nn⟩
      refine hN _ _ ?_
      clear hN N Nn wn
      refine LQ.stepOne ?_
      refine LQ.opN rfl rfl (fun N hN => ?_)
      go_simp
      refine ⟨fun f q _ => And.intro rfl (pick_g (by omega) (by omega) (by omega) (Nat.le_refl _) q), ?_⟩
      rintro u ⟨z, rfl, z0, z1⟩
      refine hN _ _ ?_
      clear hN N
      obtain ⟨pv, pv0, pv1, hpv⟩ := Nine.at z0 z1
      iterate 1 (refine LQ.stepDT rfl rfl (fun N hN => ?_); go_simp; apply Exists.intro; refine ⟨fun _ _ _ => ?_, hN _ _ ?_⟩; exact And.intro rfl rfl; clear hN N)
      refine LQ.stepDT rfl rfl (fun N hN => ?_)
      go_simp
      refine ⟨.int .i64 pv, fun f q hk => ?_, hN _ _ ?_⟩
      · obtain ⟨cx, ex, Nx⟩ := (hk _ (List.mem_cons_of_mem _ (List.mem_cons_self ..))).2
        cases ex
        have hc := hpv _ _ _ _ Nx
        clear hk Nx
        go_simp
        exact ⟨rfl, rfl⟩
      clear hN N
      refine LQ.stepOne ?_
      refine LQ.opN rfl rfl (fun N hN => ?_)
      go_simp
      refine ⟨fun f q _ => And.intro rfl (way_g (by omega) (by omega) (by omega) (Nat.le_refl _) q), ?_⟩
      rintro u ⟨yw, rfl, yw0, yw1⟩
      refine hN _ _ ?_
      clear hN N
      refine LQ.stepOne ?_
      refine LQ.opN rfl rfl (fun N hN => ?_)
      go_simp
      refine ⟨fun f q _ => ?_, fun _ _ => hN _ _ ?_⟩
      · obtain ⟨x, x', X⟩ := q.y0
        have X' := X
        obtain ⟨g0, g1, g2, g3⟩ := X'
        go_simp
        exact store_g (by omega) (by omega) (Nat.le_refl _) q X
      clear hN N
      refine LQ.lexEndT ?_
      rintro w7 ⟨q, rfl⟩ kn
      have X : Box q.w w.heap.size ml mh := (kn _ (List.mem_cons_self ..)).2
      clear kn kS0 kS1 hpv
      have B7 := q.bw
      generalize q.w = w7 at *
      obtain ⟨c0, c1, c2, c3⟩ := X
      simp only [List.drop]
      go_wp2
      refine bodyPost_ret (v := .tuple #[.agg #[.int .i64 ml, .int .i64 mh], .int .i64 pv, .int .i64 yw]) (by simp [results, Tryd.results15, go_sem, *]) rfl ⟨_, _, _, _, rfl, by omega, by omega, by omega, by omega, by omega, by omega, by omega, by omega, ?_⟩
      exact B7
    · refine LQ.opN rfl rfl (fun N hN => ?_)
      go_simp
      refine ⟨fun f q _ => And.intro rfl (pick_g (by omega) (by omega) (by omega) (Nat.le_refl _) q), ?_⟩
      rintro u ⟨z, rfl, z0, z1⟩
      refine hN _ _ ?_
      clear hN N
      obtain ⟨pv, pv0, pv1, hpv⟩ := Nine.at z0 z1
      refine LQ.stepTwo ?_ ?_
      · refine LQ.opN rfl rfl (fun N hN => ?_)
        go_simp
        refine ⟨fun f q _ => alloc_g (Nat.le_refl _) q _, ?_⟩
        rintro u wn ⟨cn, rfl, Nn⟩
        refine hN _ _ ?_
        clear hN N Nn wn
        iterate 1 (refine LQ.stepDT rfl rfl (fun N hN => ?_); go_simp; apply Exists.intro; refine ⟨fun _ _ _ => ?_, hN _ _ ?_⟩; exact And.intro rfl rfl; clear hN N)
        refine LQ.stepDT rfl rfl (fun N hN => ?_)
        go_simp
        refine ⟨.int .i64 pv, fun f q hk => ?_, hN _ _ ?_⟩
        · obtain ⟨cx, ex, Nx⟩ := (hk _ (List.mem_cons_self ..)).2
          cases ex
          have hc := hpv _ _ _ _ Nx
          clear hk Nx
          go_simp
          exact ⟨rfl, rfl⟩
        clear hN N
        refine LQ.stepOne ?_
        refine LQ.opN rfl rfl (fun N hN => ?_)
        go_simp
        refine ⟨fun f q _ => And.intro rfl (way_g (by omega) (by omega) (by omega) (Nat.le_refl _) q), ?_⟩
        rintro u ⟨yw, rfl, yw0, yw1⟩
        refine hN _ _ ?_
        clear hN N
        refine LQ.stepOne ?_
        refine LQ.opN rfl rfl (fun N hN => ?_)
        go_simp
        refine ⟨fun f q _ => ?_, fun _ _ => hN _ _ ?_⟩
        · obtain ⟨x, x', X⟩ := q.y0
          have X' := X
          obtain ⟨g0, g1, g2, g3⟩ := X'
          go_simp
          exact store_g (by omega) (by omega) (Nat.le_refl _) q X
        clear hN N
        refine LQ.lexEndT ?_
        rintro w7 ⟨q, rfl⟩ kn
        have X : Box q.w w.heap.size ml mh := (kn _ (List.mem_cons_self ..)).2
        clear kn kS0 kS1 hpv
        have B7 := q.bw
        generalize q.w = w7 at *
        obtain ⟨c0, c1, c2, c3⟩ := X
        simp only [List.drop]
        go_wp2
        refine bodyPost_ret (v := .tuple #[.agg #[.int .i64 ml, .int .i64 mh], .int .i64 pv, .int .i64 yw]) (by simp [results, Tryd.results15, go_sem, *]) rfl ⟨_, _, _, _, rfl, by omega, by omega, by omega, by omega, by omega, by omega, by omega, by omega, ?_⟩
        exact B7
      · refine LQ.opN rfl rfl (fun N hN => ?_)
        go_simp
        refine ⟨fun f q _ => And.intro rfl (way_g (by omega) (by omega) (by omega) (Nat.le_refl _) q), ?_⟩
        rintro u ⟨yw, rfl, yw0, yw1⟩
        refine hN _ _ ?_
        clear hN N
        refine LQ.stepTwo ?_ ?_
        · refine LQ.opN rfl rfl (fun N hN => ?_)
          go_simp
          refine ⟨fun f q _ => alloc_g (Nat.le_refl _) q _, ?_⟩
          rintro u wn ⟨cn, rfl, Nn⟩
          refine hN _ _ ?_
          clear hN N Nn wn
          iterate 1 (refine LQ.stepDT rfl rfl (fun N hN => ?_); go_simp; apply Exists.intro; refine ⟨fun _ _ _ => ?_, hN _ _ ?_⟩; exact And.intro rfl rfl; clear hN N)
          refine LQ.stepDT rfl rfl (fun N hN => ?_)
          go_simp
          refine ⟨.int .i64 pv, fun f q hk => ?_, hN _ _ ?_⟩
          · obtain ⟨cx, ex, Nx⟩ := (hk _ (List.mem_cons_self ..)).2
            cases ex
            have hc := hpv _ _ _ _ Nx
            clear hk Nx
            go_simp
            exact ⟨rfl, rfl⟩
          clear hN N
          refine LQ.stepOne ?_
          refine LQ.opN rfl rfl (fun N hN => ?_)
          go_simp
          refine ⟨fun f q _ => ?_, fun _ _ => hN _ _ ?_⟩
          · obtain ⟨x, x', X⟩ := q.y0
            have X' := X
            obtain ⟨g0, g1, g2, g3⟩ := X'
            go_simp
            exact store_g (by omega) (by omega) (Nat.le_refl _) q X
          clear hN N
          refine LQ.lexEndT ?_
          rintro w7 ⟨q, rfl⟩ kn
          have X : Box q.w w.heap.size ml mh := (kn _ (List.mem_cons_self ..)).2
          clear kn kS0 kS1 hpv
          have B7 := q.bw
          generalize q.w = w7 at *
          obtain ⟨c0, c1, c2, c3⟩ := X
          simp only [List.drop]
          go_wp2
          refine bodyPost_ret (v := .tuple #[.agg #[.int .i64 ml, .int .i64 mh], .int .i64 pv, .int .i64 yw]) (by simp [results, Tryd.results15, go_sem, *]) rfl ⟨_, _, _, _, rfl, by omega, by omega, by omega, by omega, by omega, by omega, by omega, by omega, ?_⟩
          exact B7
        · refine LQ.opN rfl rfl (fun N hN => ?_)
          go_simp
          refine ⟨fun f q _ => ?_, fun _ _ => hN _ _ ?_⟩
          · obtain ⟨x, x', X⟩ := q.y0
            have X' := X
            obtain ⟨g0, g1, g2, g3⟩ := X'
            go_simp
            exact store_g (by omega) (by omega) (Nat.le_refl _) q X
          clear hN N
          refine LQ.stepOne ?_
          refine LQ.opN rfl rfl (fun N hN => ?_)
          go_simp
          refine ⟨fun f q _ => alloc_g (Nat.le_refl _) q _, ?_⟩
          rintro u wn ⟨cn, rfl, Nn⟩
          refine hN _ _ ?_
          clear hN N Nn wn
          iterate 1 (refine LQ.stepDT rfl rfl (fun N hN => ?_); go_simp; apply Exists.intro; refine ⟨fun _ _ _ => ?_, hN _ _ ?_⟩; exact And.intro rfl rfl; clear hN N)
          refine LQ.stepDT rfl rfl (fun N hN => ?_)
          go_simp
          refine ⟨.int .i64 pv, fun f q hk => ?_, hN _ _ ?_⟩
          · obtain ⟨cx, ex, Nx⟩ := (hk _ (List.mem_cons_self ..)).2
            cases ex
            have hc := hpv _ _ _ _ Nx
            clear hk Nx
            go_simp
            exact ⟨rfl, rfl⟩
          clear hN N
          refine LQ.lexEndT ?_
          rintro w7 ⟨q, rfl⟩ kn
          have X : Box q.w w.heap.size ml mh := (kn _ (List.mem_cons_of_mem _ (List.mem_cons_self ..))).2
          clear kn kS0 kS1 hpv
          have B7 := q.bw
          generalize q.w = w7 at *
          obtain ⟨c0, c1, c2, c3⟩ := X
          simp only [List.drop]
          go_wp2
          refine bodyPost_ret (v := .tuple #[.agg #[.int .i64 ml, .int .i64 mh], .int .i64 pv, .int .i64 yw]) (by simp [results, Tryd.results15, go_sem, *]) rfl ⟨_, _, _, _, rfl, by omega, by omega, by omega, by omega, by omega, by omega, by omega, by omega, ?_⟩
          exact B7

end DW
end Go.Proofs.YtldogjldnckdmaeDoor
