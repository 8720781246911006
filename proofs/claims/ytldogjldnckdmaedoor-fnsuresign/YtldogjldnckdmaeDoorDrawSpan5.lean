/-
  The draws of spans that return one span and a second one near by: the first answer may be stored while the second is still being reckoned.
-/
import Derived.Test.YtldogjldnckdmaeDoorRows
import Derived.Test.YtldogjldnckdmaeDoorDrawKit
import Derived.Test.YtldogjldnckdmaeDoorDrawWalks
import Derived.Test.YtldogjldnckdmaeDoorDrawBig
import Derived.Test.YtldogjldnckdmaeDoorDrawSpan
import Derived.Test.YtldogjldnckdmaeDoorDrawSpan2
import Derived.Test.YtldogjldnckdmaeDoorDrawSpan4
import Derived.Test.YtldogjldnckdmaeDoorSpanWalks
import Derived.Test.YtldogjldnckdmaeDoorLoose2
import Derived.WalkKit
import Derived.Below
namespace Go.Proofs.YtldogjldnckdmaeDoor
open Go.RowKit Go.Sort
set_option linter.unusedVariables false

namespace DW
open DK SW

/-- A world in which the second span is being reckoned: the reader has gone on, 's' and the second answer's place are as they were, in the first answer's place lies some span. -/
structure Wf (n0 : Nat) (w0 : World) (k b y z : Nat) (sl sh : Int) (f : Nat) where
  w : World
  rd : ∃ p, Rd w k p ∧ p + 200 * f ≤ 800000000
  bw : Below n0 w0 w
  s : Box w b sl sh
  z0 : Box w z 0 0
  y0 : ∃ x x', Box w y x x'
abbrev Cf (n0 : Nat) (w0 : World) (k b y z : Nat) (sl sh : Int) : Nat → World → Prop := fun f w' => ∃ q : Wf n0 w0 k b y z sl sh f, w' = q.w
theorem Cf.mono {n0 : Nat} {w0 : World} {k b y z : Nat} {sl sh : Int} : ∀ f w, Cf n0 w0 k b y z sl sh (f + 1) w → Cf n0 w0 k b y z sl sh f w := by
  rintro f w ⟨q, rfl⟩
  obtain ⟨p, h1, h2⟩ := q.rd
  exact ⟨⟨q.w, ⟨p, h1, by omega⟩, q.bw, q.s, q.z0, q.y0⟩, rfl⟩
theorem Cf.start {n0 : Nat} {w0 w : World} {k b y z p : Nat} {sl sh : Int} (n : Nat) (R : Rd w k p) (h : p + 200 * n ≤ 800000000) (B : Below n0 w0 w) (S : Box w b sl sh) (Z : Box w z 0 0) (Y : Box w y 0 0) :
    Cf n0 w0 k b y z sl sh n { w with drawn := w.drawn + 1 } :=
  ⟨⟨w.drew, ⟨p, R.drew, h⟩, B.drew, ⟨S.c0, S.c1, S.f0, S.f1⟩, ⟨Z.c0, Z.c1, Z.f0, Z.f1⟩, 0, 0, ⟨Y.c0, Y.c1, Y.f0, Y.f1⟩⟩, rfl⟩
/-- What is known of the two draws, and behind the first store. -/
def ndS (i1 i2 i3 : Nat) (n : Int) (y : Nat) (sl sh : Int) : Nat → Option (Act → Value → World → Prop) := fun i =>
  if i = i1 then some (fun _ u _ => isNum n u) else if i = i2 then some (fun _ u _ => isNum n u) else if i = i3 then some (fun _ _ w => Box w y sl sh) else none
theorem ndS_local {ops : Array Oper} (i1 i2 i3 : Nat) (n : Int) (y : Nat) (sl sh : Int) : LQ.Local ops (ndS i1 i2 i3 n y sl sh) := by
  intro j Φ oj hn _ a dst v _
  unfold ndS at hn
  split at hn
  · cases hn; rfl
  · split at hn
    · cases hn; rfl
    · split at hn
      · cases hn; rfl
      · cases hn
theorem ndS_keeps {i1 i2 i3 : Nat} {n : Int} {y : Nat} {sl sh : Int} {w w' : World} (h : Box w y sl sh → Box w' y sl sh) : LQ.Keeps (ndS i1 i2 i3 n y sl sh) w w' := by
  intro i Φ a u hn hu
  unfold ndS at hn
  split at hn
  · cases hn; exact hu
  · split at hn
    · cases hn; exact hu
    · split at hn
      · cases hn; exact h hu
      · cases hn
theorem pick_f {i1 i2 i3 : Nat} {m : Int} {n0 : Nat} {w0 : World} {k b y z f : Nat} {sl sh : Int} (hb : b ≠ k) (hy : y ≠ k) (hz : z ≠ k) (hn : n0 ≤ k) (h0 : n0 ≤ w0.heap.size) (q : Wf n0 w0 k b y z sl sh (f + 1)) (n : Int) (h1 : 1 ≤ n) :
    Calls Tryd.prog 30 #[.pointer (some ⟨k, 0, none⟩), .int .i64 n] q.w fun e w'' => ∃ u, e = .returned u ∧ Cf n0 w0 k b y z sl sh f w'' ∧ (∃ z : Int, u = .int .i64 z ∧ 0 ≤ z ∧ z < n) ∧ LQ.Keeps (ndS i1 i2 i3 m y sl sh) q.w w'' := by
  obtain ⟨p, R, hp⟩ := q.rd
  refine (pick_any q.w k p n (by omega) R).mono ?_
  rintro e w1 ⟨v, rfl, v0, v1, R1, T1⟩
  obtain ⟨x, x', Y⟩ := q.y0
  exact ⟨_, rfl, ⟨⟨w1, ⟨_, R1, by omega⟩, q.bw.trans (T1.toBelow (Nat.le_trans h0 q.bw.size) hn), Box.tch q.s T1 q.s.lt hb, Box.tch q.z0 T1 q.z0.lt hz, x, x', Box.tch Y T1 Y.lt hy⟩, rfl⟩, ⟨v, rfl, v0, v1 h1⟩, ndS_keeps fun X => Box.tch X T1 X.lt hy⟩
/-- A store of two numbers into a span's place does not reach the reader: its bytes are none of these. -/
theorem Rd.setBox {w : World} {k p b : Nat} {x y : Int} (h : Rd w k p) (X : Box w b x y) (hb : b ≠ k) (x' y' : Int) : Rd ((w.setCell ⟨b, 0, none⟩ (.int .i64 x')).setCell ⟨b, 1, none⟩ (.int .i64 y')) k p := by
  obtain ⟨a, len, cap, h0, h1, hf, hl, hB⟩ := h
  have far : ∀ q : Addr, q ≠ ⟨b, 0, none⟩ → q ≠ ⟨b, 1, none⟩ → ((w.setCell ⟨b, 0, none⟩ (.int .i64 x')).setCell ⟨b, 1, none⟩ (.int .i64 y')).cell? q = w.cell? q := fun q n0 n1 => by
    rw [World.cell?_setCell_other _ _ _ _ (Ne.symm n1), World.cell?_setCell_other _ _ _ _ (Ne.symm n0)]
  have nk : ∀ o o' : Nat, (⟨k, o, none⟩ : Addr) ≠ ⟨b, o', none⟩ := fun o o' e => hb (congrArg Addr.block e).symm
  have eh : ((w.setCell ⟨b, 0, none⟩ (.int .i64 x')).setCell ⟨b, 1, none⟩ (.int .i64 y')).heap[k]? = w.heap[k]? := by
    rw [Below.heap_setCell _ _ _ _ (by simp; omega), Below.heap_setCell _ _ _ _ (by simp; omega)]
  refine ⟨a, len, cap, (far _ (nk _ _) (nk _ _)).trans h0, (far _ (nk _ _) (nk _ _)).trans h1, (World.frozen?_of_block (w := w) eh).trans hf, hl, ?_⟩
  rcases hB with rfl | ⟨c, off, rfl, hc, hz⟩
  · exact .inl rfl
  · refine .inr ⟨c, off, rfl, hc, fun i hi => ?_⟩
    obtain ⟨z, z0, z1, hcell⟩ := hz i hi
    refine ⟨z, z0, z1, (far _ (fun e => ?_) (fun e => ?_)).trans hcell⟩
    · rw [e, X.c0] at hcell; cases hcell
    · rw [e, X.c1] at hcell; cases hcell
theorem store_f {i1 i2 i3 : Nat} {m : Int} {n0 : Nat} {w0 : World} {k b y z f : Nat} {sl sh x x' : Int} (hy : y ≠ k) (hyb : y ≠ b) (hyz : y ≠ z) (hn : n0 ≤ y) (q : Wf n0 w0 k b y z sl sh (f + 1)) (Y : Box q.w y x x') :
    Cf n0 w0 k b y z sl sh f ((q.w.setCell ⟨y, 0, none⟩ (.int .i64 sl)).setCell ⟨y, 1, none⟩ (.int .i64 sh)) ∧ Box ((q.w.setCell ⟨y, 0, none⟩ (.int .i64 sl)).setCell ⟨y, 1, none⟩ (.int .i64 sh)) y sl sh ∧
    LQ.Keeps (ndS i1 i2 i3 m y sl sh) q.w ((q.w.setCell ⟨y, 0, none⟩ (.int .i64 sl)).setCell ⟨y, 1, none⟩ (.int .i64 sh)) := by
  obtain ⟨p, R, hp⟩ := q.rd
  have X := Y.set sl sh
  exact ⟨⟨⟨_, ⟨p, Rd.setBox R Y hy sl sh, by omega⟩, (q.bw.setCell (by simpa using hn) _).setCell (by simpa using hn) _, (q.s.apart hyb _).apart hyb _, (q.z0.apart hyz _).apart hyz _, sl, sh, X⟩, rfl⟩, X, ndS_keeps fun _ => X⟩

/-- The same where the span itself is the answer that is stored, and numbers follow. -/
structure Wh (n0 : Nat) (w0 : World) (k b y : Nat) (sl sh : Int) (f : Nat) where
  w : World
  rd : ∃ p, Rd w k p ∧ p + 200 * f ≤ 800000000
  bw : Below n0 w0 w
  s : Box w b sl sh
  y0 : ∃ x x', Box w y x x'
abbrev Ch (n0 : Nat) (w0 : World) (k b y : Nat) (sl sh : Int) : Nat → World → Prop := fun f w' => ∃ q : Wh n0 w0 k b y sl sh f, w' = q.w
theorem Ch.mono {n0 : Nat} {w0 : World} {k b y : Nat} {sl sh : Int} : ∀ f w, Ch n0 w0 k b y sl sh (f + 1) w → Ch n0 w0 k b y sl sh f w := by
  rintro f w ⟨q, rfl⟩
  obtain ⟨p, h1, h2⟩ := q.rd
  exact ⟨⟨q.w, ⟨p, h1, by omega⟩, q.bw, q.s, q.y0⟩, rfl⟩
theorem Ch.start {n0 : Nat} {w0 w : World} {k b y p : Nat} {sl sh : Int} (n : Nat) (R : Rd w k p) (h : p + 200 * n ≤ 800000000) (B : Below n0 w0 w) (S : Box w b sl sh) (Y : Box w y 0 0) :
    Ch n0 w0 k b y sl sh n { w with drawn := w.drawn + 1 } :=
  ⟨⟨w.drew, ⟨p, R.drew, h⟩, B.drew, ⟨S.c0, S.c1, S.f0, S.f1⟩, 0, 0, ⟨Y.c0, Y.c1, Y.f0, Y.f1⟩⟩, rfl⟩
def isBox (y : Nat) (w : World) : Prop := ∃ p q : Int, -1073000600 ≤ p ∧ p ≤ 1073000600 ∧ -1073000600 ≤ q ∧ q ≤ 1073000600 ∧ Box w y p q
def ndH (i1 i2 i3 : Nat) (n : Int) (y : Nat) : Nat → Option (Act → Value → World → Prop) := fun i =>
  if i = i1 then some (fun _ u _ => isNum n u) else if i = i2 then some (fun _ u _ => isNum n u) else if i = i3 then some (fun _ _ w => isBox y w) else none
theorem ndH_local {ops : Array Oper} (i1 i2 i3 : Nat) (n : Int) (y : Nat) : LQ.Local ops (ndH i1 i2 i3 n y) := by
  intro j Φ oj hn _ a dst v _
  unfold ndH at hn
  split at hn
  · cases hn; rfl
  · split at hn
    · cases hn; rfl
    · split at hn
      · cases hn; rfl
      · cases hn
theorem ndH_keeps {i1 i2 i3 : Nat} {n : Int} {y : Nat} {w w' : World} (h : isBox y w → isBox y w') : LQ.Keeps (ndH i1 i2 i3 n y) w w' := by
  intro i Φ a u hn hu
  unfold ndH at hn
  split at hn
  · cases hn; exact hu
  · split at hn
    · cases hn; exact hu
    · split at hn
      · cases hn; exact h hu
      · cases hn
theorem pick_h {i1 i2 i3 : Nat} {m : Int} {n0 : Nat} {w0 : World} {k b y f : Nat} {sl sh : Int} (hb : b ≠ k) (hy : y ≠ k) (hn : n0 ≤ k) (h0 : n0 ≤ w0.heap.size) (q : Wh n0 w0 k b y sl sh (f + 1)) (n : Int) (h1 : 1 ≤ n) :
    Calls Tryd.prog 30 #[.pointer (some ⟨k, 0, none⟩), .int .i64 n] q.w fun e w'' => ∃ u, e = .returned u ∧ Ch n0 w0 k b y sl sh f w'' ∧ (∃ z : Int, u = .int .i64 z ∧ 0 ≤ z ∧ z < n) ∧ LQ.Keeps (ndH i1 i2 i3 m y) q.w w'' := by
  obtain ⟨p, R, hp⟩ := q.rd
  refine (pick_any q.w k p n (by omega) R).mono ?_
  rintro e w1 ⟨v, rfl, v0, v1, R1, T1⟩
  obtain ⟨x, x', Y⟩ := q.y0
  exact ⟨_, rfl, ⟨⟨w1, ⟨_, R1, by omega⟩, q.bw.trans (T1.toBelow (Nat.le_trans h0 q.bw.size) hn), Box.tch q.s T1 q.s.lt hb, x, x', Box.tch Y T1 Y.lt hy⟩, rfl⟩, ⟨v, rfl, v0, v1 h1⟩, ndH_keeps fun ⟨a, c, g1, g2, g3, g4, X⟩ => ⟨a, c, g1, g2, g3, g4, Box.tch X T1 X.lt hy⟩⟩
theorem store_h {i1 i2 i3 : Nat} {m : Int} {n0 : Nat} {w0 : World} {k b y f : Nat} {sl sh x x' lo hi : Int} (hy : y ≠ k) (hyb : y ≠ b) (hn : n0 ≤ y) (q : Wh n0 w0 k b y sl sh (f + 1)) (Y : Box q.w y x x') (g1 : -1073000600 ≤ lo) (g2 : lo ≤ 1073000600) (g3 : -1073000600 ≤ hi) (g4 : hi ≤ 1073000600) :
    Ch n0 w0 k b y sl sh f ((q.w.setCell ⟨y, 0, none⟩ (.int .i64 lo)).setCell ⟨y, 1, none⟩ (.int .i64 hi)) ∧ isBox y ((q.w.setCell ⟨y, 0, none⟩ (.int .i64 lo)).setCell ⟨y, 1, none⟩ (.int .i64 hi)) ∧
    LQ.Keeps (ndH i1 i2 i3 m y) q.w ((q.w.setCell ⟨y, 0, none⟩ (.int .i64 lo)).setCell ⟨y, 1, none⟩ (.int .i64 hi)) := by
  obtain ⟨p, R, hp⟩ := q.rd
  have X := Y.set lo hi
  exact ⟨⟨⟨_, ⟨p, Rd.setBox R Y hy lo hi, by omega⟩, (q.bw.setCell (by simpa using hn) _).setCell (by simpa using hn) _, (q.s.apart hyb _).apart hyb _, lo, hi, X⟩, rfl⟩, ⟨lo, hi, g1, g2, g3, g4, X⟩, ndH_keeps fun _ => ⟨lo, hi, g1, g2, g3, g4, X⟩⟩

theorem drawSpanMeet_any (w : World) (a : Option Addr) (len cap : Nat) (h : Src w a len cap) :
    Calls Tryd.prog 51 #[.slice a len cap] w fun e w' => ∃ sl sh tl th : Int, e = .returned (.tuple #[spV sl sh, spV tl th]) ∧ -1073000600 ≤ sl ∧ sl ≤ 1073000600 ∧ -1073000600 ≤ sh ∧ sh ≤ 1073000600 ∧ -1073000600 ≤ tl ∧ tl ≤ 1073000600 ∧ -1073000600 ≤ th ∧ th ≤ 1073000600 ∧ Below w.heap.size w w' := by
  go_enter Tryd.func51, Tryd.ntmps51
  go_wp2_with fail
  refine (l6Open_any _ _ _ _ ((h.kept (below_new w _)).kept (below_new _ _))).mono ?_
  rintro e w1 ⟨rfl, R1, B1⟩
  have Y := ((Box.new w 0 0 24).alloc _).kept B1
  have Z := (Box.new2 w _ 0 0 24).kept B1
  have B := below1 (below_new2 w _ _) B1
  have hk : w.heap.size + 2 ≤ ((w.alloc (.cells #[.int .i64 0, .int .i64 0] 24)).alloc (.cells #[.int .i64 0, .int .i64 0] 24)).heap.size := by simp
  generalize hkk : ((w.alloc (.cells #[.int .i64 0, .int .i64 0] 24)).alloc (.cells #[.int .i64 0, .int .i64 0] 24)).heap.size = k at *
  clear B1 h hkk
  go_wp2_with fail
  refine (l71Span_any _ _ _ (by omega) R1).mono ?_
  rintro e w2 ⟨sl, sh, p2, rfl, l0, l1, h0, h1, q2, R2, T2⟩
  replace Y := Box.tch Y T2 Y.lt (by omega)
  replace Z := Box.tch Z T2 Z.lt (by omega)
  replace B := B.trans (T2.toBelow B.size (by omega))
  have hk2 := R2.lt
  clear T2 R1
  have S := Box.new w2 sl sh 24
  replace Y := Y.alloc (.cells #[.int .i64 sl, .int .i64 sh] 24)
  replace Z := Z.alloc (.cells #[.int .i64 sl, .int .i64 sh] 24)
  replace B := below1 B (below_new w2 (.cells #[.int .i64 sl, .int .i64 sh] 24))
  replace R2 := R2.alloc (.cells #[.int .i64 sl, .int .i64 sh] 24)
  go_wp2_with fail
  refine (pick_any _ _ _ _ (by omega) R2).mono ?_
  rintro e w3 ⟨v, rfl, v0, v1, R3, T3⟩
  replace v1 := v1 (by omega)
  replace Y := Box.tch Y T3 Y.lt (by omega)
  replace Z := Box.tch Z T3 Z.lt (by omega)
  replace S := Box.tch S T3 S.lt (by omega)
  replace B := B.trans (T3.toBelow B.size (by omega))
  have hy := Y.lt
  have hz := Z.lt
  have hsl := S.lt
  clear T3 R2
  have kS0 : ∀ f (q : Wd k w3 f), q.w.cell? ⟨w2.heap.size, 0, none⟩ = some (.int .i64 sl) := fun f q => (Box.tch S q.tc S.lt (by omega)).c0
  have kS1 : ∀ f (q : Wd k w3 f), q.w.cell? ⟨w2.heap.size, 1, none⟩ = some (.int .i64 sh) := fun f q => (Box.tch S q.tc S.lt (by omega)).c1
  rcases (show v = 0 ∨ 1 ≤ v by omega) with rfl | v2
  · go_wp2_with fail
    refine LQ.region (Cr k w3) (ndV fun i => if i = 2 then some isSpan else none) 3 [0, 1, 2] (ndV_local _) (by kernel_rfl) (by kernel_rfl) Cr.mono (Cr.start 3 R3 (by omega)) ?_
    iterate 2 (refine LQ.stepD rfl rfl (fun N hN => ?_); go_simp; apply Exists.intro; refine ⟨fun _ _ _ => ?_, hN _ _ ?_⟩; exact And.intro rfl rfl; clear hN N)
    refine LQ.stepN rfl rfl (fun N hN => ?_)
    go_simp
    refine ⟨fun f q _ => And.intro rfl (span_loose q), ?_⟩
    rintro u ⟨tl, th, rfl, m0, m1, n0, n1⟩
    refine hN _ _ ?_
    clear hN N
    refine LQ.lexEnd ?_
    rintro w4 ⟨q, rfl⟩ kn
    clear kn kS0 kS1
    obtain ⟨p4, R4, q4⟩ := q.rd
    have T4 := q.tc
    generalize q.w = w4 at *
    obtain ⟨y0, y1, y2, y3⟩ := Box.tch Y T4 Y.lt (by omega)
    obtain ⟨x0, x1, x2, x3⟩ := Box.tch Z T4 Z.lt (by omega)
    replace B := B.trans (T4.toBelow B.size (by omega))
    simp only [List.drop]
    go_wp2
    refine bodyPost_ret (v := .tuple #[.agg #[.int .i64 sl, .int .i64 sh], .agg #[.int .i64 (tl), .int .i64 (th)]]) (by simp [results, Tryd.results51, go_sem, *]) rfl ⟨_, _, _, _, rfl, by omega, by omega, by omega, by omega, by omega, by omega, by omega, by omega, ?_⟩
    exact below_set2 (below_set2 B (by omega) _ _) (by omega) _ _
  · have e0 : (v == 0) = false := by simp; omega
    have kS0 : ∀ f (q : Wf w.heap.size w k w2.heap.size w.heap.size (w.heap.size + 1) sl sh f), q.w.cell? ⟨w2.heap.size, 0, none⟩ = some (.int .i64 sl) := fun f q => q.s.c0
    have kS1 : ∀ f (q : Wf w.heap.size w k w2.heap.size w.heap.size (w.heap.size + 1) sl sh f), q.w.cell? ⟨w2.heap.size, 1, none⟩ = some (.int .i64 sh) := fun f q => q.s.c1
    go_wp2_with fail
    refine LQ.region (Cf w.heap.size w k w2.heap.size w.heap.size (w.heap.size + 1) sl sh) (ndS 4 9 12 50 w.heap.size sl sh) 13 [0, 1, 2, 3, 6, 7, 8, 4, 5, 9, 10, 11, 12] (ndS_local _ _ _ _ _ _ _) (by kernel_rfl) (by kernel_rfl) Cf.mono (Cf.start 13 R3 (by omega) B S Z Y) ?_
    iterate 7 (refine LQ.stepD rfl rfl (fun N hN => ?_); go_simp; apply Exists.intro; refine ⟨fun _ _ _ => ?_, hN _ _ ?_⟩; exact And.intro rfl rfl; clear hN N)
    refine LQ.stepN rfl rfl (fun N hN => ?_)
    go_simp
    refine ⟨fun f q _ => And.intro rfl (pick_f (by omega) (by omega) (by omega) (by omega) (Nat.le_refl _) q 50 (by omega)), ?_⟩
    rintro u ⟨z, rfl, z0, z1⟩
    refine hN _ _ ?_
    clear hN N
    have : IntKind.i64.wrap (sl + z) = sl + z := wrap_id (by omega) (by omega)
    iterate 1 (refine LQ.stepD rfl rfl (fun N hN => ?_); go_simp; apply Exists.intro; refine ⟨fun _ _ _ => ?_, hN _ _ ?_⟩; exact And.intro rfl rfl; clear hN N)
    refine LQ.stepN rfl rfl (fun N hN => ?_)
    go_simp
    refine ⟨fun f q _ => And.intro rfl (pick_f (by omega) (by omega) (by omega) (by omega) (Nat.le_refl _) q 50 (by omega)), ?_⟩
    rintro u ⟨y, rfl, y0, y1⟩
    refine hN _ _ ?_
    clear hN N
    have : IntKind.i64.wrap (sh + y) = sh + y := wrap_id (by omega) (by omega)
    iterate 2 (refine LQ.stepD rfl rfl (fun N hN => ?_); go_simp; apply Exists.intro; refine ⟨fun _ _ _ => ?_, hN _ _ ?_⟩; exact And.intro rfl rfl; clear hN N)
    refine LQ.stepN rfl rfl (fun N hN => ?_)
    go_simp
    refine ⟨fun f q _ => ?_, fun _ _ => hN _ _ ?_⟩
    · obtain ⟨x, x', X⟩ := q.y0
      have X' := X
      obtain ⟨g0, g1, g2, g3⟩ := X'
      go_simp
      exact store_f (by omega) (by omega) (by omega) (by omega) q X
    clear hN N
    refine LQ.lexEnd ?_
    rintro w4 ⟨q, rfl⟩ kn
    have X : Box q.w w.heap.size sl sh := (kn _ (List.mem_cons_self ..)).2
    clear kn kS0 kS1
    have B4 := q.bw
    obtain ⟨y0, y1, y2, y3⟩ := X
    obtain ⟨x0, x1, x2, x3⟩ := q.z0
    generalize q.w = w4 at *
    simp only [List.drop]
    go_wp2
    refine bodyPost_ret (v := .tuple #[.agg #[.int .i64 sl, .int .i64 sh], .agg #[.int .i64 (sl + z), .int .i64 (sh + y)]]) (by simp [results, Tryd.results51, go_sem, *]) rfl ⟨_, _, _, _, rfl, by omega, by omega, by omega, by omega, by omega, by omega, by omega, by omega, ?_⟩
    exact below_set2 B4 (by omega) _ _



end DW
end Go.Proofs.YtldogjldnckdmaeDoor
