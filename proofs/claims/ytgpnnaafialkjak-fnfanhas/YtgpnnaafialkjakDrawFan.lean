/-
  The draws of fans: a fan, a fan and an angle, a fan, parts and a way.
-/
import Derived.Test.YtgpnnaafialkjakRows
import Derived.Test.YtgpnnaafialkjakDrawKit
import Derived.Test.YtgpnnaafialkjakDrawWalks
import Derived.Test.YtgpnnaafialkjakDrawBig
import Derived.Test.YtgpnnaafialkjakDrawSine
import Derived.Test.YtgpnnaafialkjakSineKit
import Derived.Test.YtgpnnaafialkjakLoose2
import Derived.Test.YtgpnnaafialkjakLoose3
import Derived.WalkKit
import Derived.Below
namespace Go.Proofs.Ytgpnnaafialkjak
open Go.RowKit Go.Sort
set_option linter.unusedVariables false

namespace DF
open DK DW SK

theorem boxTch {k n : Nat} {w w' : World} {b : Nat} {x y : Int} (h : SK.Box w b x y) (t : Tch k n w w') (hb : b < n) (hk : b ≠ k) : SK.Box w' b x y :=
  ⟨(t.cell hb hk).trans h.c0, (t.cell hb hk).trans h.c1, (t.frozen hb hk).trans h.f0, (t.frozen hb hk).trans h.f1⟩
theorem rdHi {w : World} {k p b o : Nat} {v : Value} (h : Rd w k p) (hb : k < b) : Rd (w.setCell ⟨b, o, none⟩ v) k p := by
  have e : ∀ j, j ≤ k → (w.setCell ⟨b, o, none⟩ v).heap[j]? = w.heap[j]? := fun j hj => Below.heap_setCell _ _ _ _ (by simp; omega)
  obtain ⟨a, len, cap, h0, h1, hf, hl, hB⟩ := h
  refine ⟨a, len, cap, (World.cell?_of_block (w := w) (e k (Nat.le_refl _))).trans h0, (World.cell?_of_block (w := w) (e k (Nat.le_refl _))).trans h1, (World.frozen?_of_block (w := w) (e k (Nat.le_refl _))).trans hf, hl, ?_⟩
  rcases hB with rfl | ⟨c, off, rfl, hc, hz⟩
  · exact .inl rfl
  · refine .inr ⟨c, off, rfl, hc, fun i hi => ?_⟩
    obtain ⟨z, z0, z1, hcell⟩ := hz i hi
    exact ⟨z, z0, z1, (World.cell?_of_block (w := w) (e c (by omega))).trans hcell⟩
theorem tchHi {k n b o : Nat} {a w : World} {v : Value} (h : Tch k n a w) (hb : n ≤ b) : Tch k n a (w.setCell ⟨b, o, none⟩ v) :=
  h.trans ⟨rfl, rfl, rfl, by simp [World.setCell], fun j hj hk => Below.heap_setCell _ _ _ _ (by simp; omega)⟩
set_option maxHeartbeats 2000000 in
theorem l71Fan_any (w : World) (k p : Nat) (hp : p ≤ 800000000) (h : Rd w k p) :
    Calls Try.prog 28 #[.pointer (some ⟨k, 0, none⟩)] w fun e w' => ∃ l h : Int, ∃ p' : Nat, e = .returned (SK.spV l h) ∧ -194400020 ≤ l ∧ l ≤ 194400020 ∧ -194400020 ≤ h ∧ h ≤ 194400020 ∧ p' ≤ p + 30 ∧ Rd w' k p' ∧ Tch k w.heap.size w w' := by
  have hk := h.lt
  have Y := SK.Box.new w 0 0 26
  have T := (Tch.refl k w.heap.size w).alloc (Nat.le_refl _) (.cells #[.int .i64 0, .int .i64 0] 26)
  go_enter Try.func28, Try.ntmps28
  go_wp2_with fail
  refine (l71Ang_any _ k p (by omega) (h.alloc _)).mono ?_
  rintro e w1 ⟨a, p1, rfl, a0, a1, q1, R1, T1⟩
  replace Y := boxTch Y T1 Y.lt (by omega)
  replace T := T.trans (T1.mono T.size)
  clear h T1
  go_wp2_with fail
  refine (pick_any _ k _ _ (by omega) R1).mono ?_
  rintro e w2 ⟨x, rfl, x0, x1, R2, T2⟩
  replace x1 := x1 (by omega)
  replace Y := boxTch Y T2 Y.lt (by omega)
  have hy := Y.lt
  replace Y := Y.alloc (.cells #[.int .i64 a, .int .i64 (a + x)] 26)
  have S := SK.Box.new w2 a (a + x) 26
  replace T := (T.trans (T2.mono T.size))
  have hs := T.size
  replace T := T.alloc hs (.cells #[.int .i64 a, .int .i64 (a + x)] 26)
  replace R2 := R2.alloc (.cells #[.int .i64 a, .int .i64 (a + x)] 26)
  clear T2 R1
  go_wp2_with fail
  refine (pick_any _ k _ _ (by omega) R2).mono ?_
  rintro e w3 ⟨v, rfl, v0, v1, R3, T3⟩
  replace v1 := v1 (by omega)
  replace Y := boxTch Y T3 Y.lt (by omega)
  replace S := boxTch S T3 S.lt (by omega)
  replace T := T.trans (T3.mono T.size)
  clear T3 R2
  have hne : w2.heap.size ≠ w.heap.size := by omega
  rcases (show v = 0 ∨ 0 < v by omega) with rfl | v2
  · obtain ⟨y0, y1, y2, y3⟩ := Y.apart (c := w2.heap.size) (o := 1) hne (.int .i64 (a - 1))
    obtain ⟨s0, s1, s2, s3⟩ := S
    go_wp2
    refine bodyPost_ret (v := .agg #[.int .i64 a, .int .i64 (a - 1)]) (by simp [results, Try.results28, go_sem, *]) rfl ⟨_, _, _, rfl, by omega, by omega, by omega, by omega, ?_, rdHi (rdHi (rdHi R3 (by omega)) (by omega)) (by omega), tchHi (tchHi (tchHi T (by omega)) (by omega)) (by omega)⟩
    omega
  · have e0 : (v == 0) = false := by simp; omega
    obtain ⟨y0, y1, y2, y3⟩ := Y
    obtain ⟨s0, s1, s2, s3⟩ := S
    go_wp2
    refine bodyPost_ret (v := .agg #[.int .i64 a, .int .i64 (a + x)]) (by simp [results, Try.results28, go_sem, *]) rfl ⟨_, _, _, rfl, by omega, by omega, by omega, by omega, ?_, rdHi (rdHi R3 (by omega)) (by omega), tchHi (tchHi T (by omega)) (by omega)⟩
    omega
def num8 (u : Value) : Prop := ∃ z : Int, u = .int .i64 z ∧ 0 ≤ z ∧ z < 8
theorem rdBox {w : World} {k p b : Nat} {x y : Int} (h : Rd w k p) (X : SK.Box w b x y) (hb : b ≠ k) (x' y' : Int) : Rd ((w.setCell ⟨b, 0, none⟩ (.int .i64 x')).setCell ⟨b, 1, none⟩ (.int .i64 y')) k p := by
  obtain ⟨a, len, cap, h0, h1, hf, hl, hB⟩ := h
  have far : ∀ q : Addr, q ≠ ⟨b, 0, none⟩ → q ≠ ⟨b, 1, none⟩ → ((w.setCell ⟨b, 0, none⟩ (.int .i64 x')).setCell ⟨b, 1, none⟩ (.int .i64 y')).cell? q = w.cell? q := fun q n0 n1 => by
    rw [World.cell?_setCell_other _ _ _ _ (Ne.symm n1), World.cell?_setCell_other _ _ _ _ (Ne.symm n0)]
  have nk : ∀ o o' : Nat, (⟨k, o, none⟩ : Addr) ≠ ⟨b, o', none⟩ := fun o o' e => hb (congrArg Addr.block e).symm
  have eh : ((w.setCell ⟨b, 0, none⟩ (.int .i64 x')).setCell ⟨b, 1, none⟩ (.int .i64 y')).heap[k]? = w.heap[k]? := by
    rw [Below.heap_setCell _ _ _ _ (by simp; omega), Below.heap_setCell _ _ _ _ (by simp; omega)]
  refine ⟨a, len, cap, (far _ (nk _ _) (nk _ _)).trans h0, (far _ (nk _ _) (nk _ _)).trans h1, (World.frozen?_of_block (w := w) eh).trans hf, hl, ?_⟩
  rcases hB with rfl | ⟨c, off, rfl, hc, hz⟩
  · exact .inl rfl
  · refine .inr ⟨c, off, rfl, hc, fun i hi => ?_⟩
    obtain ⟨z, z0, z1, hcell⟩ := hz i hi
    refine ⟨z, z0, z1, (far _ (fun e => ?_) (fun e => ?_)).trans hcell⟩
    · rw [e, X.c0] at hcell; cases hcell
    · rw [e, X.c1] at hcell; cases hcell
/-- A world in which the reader has gone on, the fan and the answer's place being as they were. -/
structure Wg (n0 : Nat) (w0 : World) (k b y : Nat) (sl sh : Int) (f : Nat) where
  w : World
  rd : ∃ p, Rd w k p ∧ p + 200 * f ≤ 800000000
  bw : Below n0 w0 w
  s : SK.Box w b sl sh
  y0 : ∃ x x', SK.Box w y x x'
abbrev Cg (n0 : Nat) (w0 : World) (k b y : Nat) (sl sh : Int) : Nat → World → Prop := fun f w' => ∃ q : Wg n0 w0 k b y sl sh f, w' = q.w
theorem Cg.mono {n0 : Nat} {w0 : World} {k b y : Nat} {sl sh : Int} : ∀ f w, Cg n0 w0 k b y sl sh (f + 1) w → Cg n0 w0 k b y sl sh f w := by
  rintro f w ⟨q, rfl⟩
  obtain ⟨p, h1, h2⟩ := q.rd
  exact ⟨⟨q.w, ⟨p, h1, by omega⟩, q.bw, q.s, q.y0⟩, rfl⟩
theorem Cg.start {n0 : Nat} {w0 w : World} {k b y p : Nat} {sl sh : Int} (n : Nat) (R : Rd w k p) (h : p + 200 * n ≤ 800000000) (B : Below n0 w0 w) (S : SK.Box w b sl sh) (Y : SK.Box w y 0 0) :
    Cg n0 w0 k b y sl sh n { w with drawn := w.drawn + 1 } :=
  ⟨⟨w.drew, ⟨p, R.drew, h⟩, B.drew, ⟨S.c0, S.c1, S.f0, S.f1⟩, 0, 0, ⟨Y.c0, Y.c1, Y.f0, Y.f1⟩⟩, rfl⟩
def ndF (y : Nat) (sl sh : Int) : Nat → Option (Act → Value → World → Prop) := fun i =>
  if i = 4 then some (fun _ u _ => num8 u) else if i = 7 then some (fun _ _ w => SK.Box w y sl sh) else none
theorem ndF_local {ops : Array Oper} (y : Nat) (sl sh : Int) : LQ.Local ops (ndF y sl sh) := by
  intro j Φ oj hn _ a dst v _
  unfold ndF at hn
  split at hn
  · cases hn; rfl
  · split at hn
    · cases hn; rfl
    · cases hn
theorem ndF_keeps {y : Nat} {sl sh : Int} {w w' : World} (g : SK.Box w y sl sh → SK.Box w' y sl sh) : LQ.Keeps (ndF y sl sh) w w' := by
  intro i Φ a u hn hu
  unfold ndF at hn
  split at hn
  · cases hn; exact hu
  · split at hn
    · cases hn; exact g hu
    · cases hn
theorem pick_f {n0 : Nat} {w0 : World} {k b y f : Nat} {sl sh : Int} (hb : b ≠ k) (hy : y ≠ k) (hn : n0 ≤ k) (h0 : n0 ≤ w0.heap.size) (q : Wg n0 w0 k b y sl sh (f + 1)) :
    Calls Try.prog 19 #[.pointer (some ⟨k, 0, none⟩), .int .i64 8] q.w fun e w'' => ∃ u, e = .returned u ∧ Cg n0 w0 k b y sl sh f w'' ∧ num8 u ∧ LQ.Keeps (ndF y sl sh) q.w w'' := by
  obtain ⟨p, R, hp⟩ := q.rd
  refine (pick_any q.w k p 8 (by omega) R).mono ?_
  rintro e w1 ⟨v, rfl, v0, v1, R1, T1⟩
  obtain ⟨x, x', Y⟩ := q.y0
  exact ⟨_, rfl, ⟨⟨w1, ⟨_, R1, by omega⟩, q.bw.trans (T1.toBelow (Nat.le_trans h0 q.bw.size) hn), boxTch q.s T1 q.s.lt hb, x, x', boxTch Y T1 Y.lt hy⟩, rfl⟩, ⟨v, rfl, v0, v1 (by omega)⟩, ndF_keeps fun X => boxTch X T1 X.lt hy⟩
theorem store_f {n0 : Nat} {w0 : World} {k b y f : Nat} {sl sh x x' : Int} (hy : y ≠ k) (hyb : y ≠ b) (hn : n0 ≤ y) (q : Wg n0 w0 k b y sl sh (f + 1)) (Y : SK.Box q.w y x x') :
    Cg n0 w0 k b y sl sh f ((q.w.setCell ⟨y, 0, none⟩ (.int .i64 sl)).setCell ⟨y, 1, none⟩ (.int .i64 sh)) ∧ SK.Box ((q.w.setCell ⟨y, 0, none⟩ (.int .i64 sl)).setCell ⟨y, 1, none⟩ (.int .i64 sh)) y sl sh ∧
    LQ.Keeps (ndF y sl sh) q.w ((q.w.setCell ⟨y, 0, none⟩ (.int .i64 sl)).setCell ⟨y, 1, none⟩ (.int .i64 sh)) := by
  obtain ⟨p, R, hp⟩ := q.rd
  have X := Y.set sl sh
  exact ⟨⟨⟨_, ⟨p, rdBox R Y hy sl sh, by omega⟩, (q.bw.setCell (by simpa using hn) _).setCell (by simpa using hn) _, (q.s.apart hyb _).apart hyb _, sl, sh, X⟩, rfl⟩, X, ndF_keeps fun _ => X⟩
set_option maxHeartbeats 2000000 in
theorem drawFanHas_any (w : World) (a : Option Addr) (len cap : Nat) (h : Src w a len cap) :
    Calls Try.prog 15 #[.slice a len cap] w fun e w' => ∃ l h x : Int, e = .returned (.tuple #[SK.spV l h, .int .i64 x]) ∧ -194400020 ≤ l ∧ l ≤ 194400020 ∧ -194400020 ≤ h ∧ h ≤ 194400020 ∧ -194400030 ≤ x ∧ x ≤ 194400030 ∧ Below w.heap.size w w' := by
  go_enter Try.func15, Try.ntmps15
  go_wp2_with fail
  refine (l6Open_any _ _ _ _ (h.kept (SK.below_new w _))).mono ?_
  rintro e w1 ⟨rfl, R1, B1⟩
  have Y := (SK.Box.new w 0 0 26).kept B1
  have B := SK.below1 (SK.below_new w _) B1
  have hk : w.heap.size + 1 ≤ (w.alloc (.cells #[.int .i64 0, .int .i64 0] 26)).heap.size := by simp
  generalize hkk : (w.alloc (.cells #[.int .i64 0, .int .i64 0] 26)).heap.size = k at *
  clear B1 h hkk
  go_wp2_with fail
  refine (l71Fan_any _ _ _ (by omega) R1).mono ?_
  rintro e w2 ⟨sl, sh, p2, rfl, l0, l1, h0, h1, q2, R2, T2⟩
  replace Y := boxTch Y T2 Y.lt (by omega)
  replace B := B.trans (T2.toBelow B.size (by omega))
  have hk2 := R2.lt
  clear T2 R1
  have S := SK.Box.new w2 sl sh 26
  replace Y := Y.alloc (.cells #[.int .i64 sl, .int .i64 sh] 26)
  replace B := SK.below1 B (SK.below_new w2 (.cells #[.int .i64 sl, .int .i64 sh] 26))
  replace R2 := R2.alloc (.cells #[.int .i64 sl, .int .i64 sh] 26)
  go_wp2_with fail
  generalize (w2.alloc (.cells #[.int .i64 sl, .int .i64 sh] 26)) = W at *
  generalize w2.heap.size = b at *
  have kS0 : ∀ f (q : Wg w.heap.size w k b w.heap.size sl sh f), q.w.cell? ⟨b, 0, none⟩ = some (.int .i64 sl) := fun f q => q.s.c0
  have kS1 : ∀ f (q : Wg w.heap.size w k b w.heap.size sl sh f), q.w.cell? ⟨b, 1, none⟩ = some (.int .i64 sh) := fun f q => q.s.c1
  refine LQ.regionT (Cg w.heap.size w k b w.heap.size sl sh) (ndF w.heap.size sl sh) 8 (.det 0 (.det 1 (.det 2 (.det 3 (.one 4 (.det 5 (.det 6 (.one 7 .nil)))))))) (ndF_local _ _ _) (by kernel_rfl) (by kernel_rfl) Cg.mono (Cg.start 8 R2 (by omega) B S Y) ?_
  iterate 4 (refine LQ.stepDT rfl rfl (fun N hN => ?_); go_simp; apply Exists.intro; refine ⟨fun _ _ _ => ?_, hN _ _ ?_⟩; exact And.intro rfl rfl; clear hN N)
  refine LQ.stepOne ?_
  refine LQ.opN rfl rfl (fun N hN => ?_)
  go_simp
  refine ⟨fun f q _ => And.intro rfl (pick_f (by omega) (by omega) (by omega) (Nat.le_refl _) q), ?_⟩
  rintro u ⟨z, rfl, z0, z1⟩
  refine hN _ _ ?_
  clear hN N
  have v1 : IntKind.i64.wrap (sl + z) = sl + z := SK.wrap_id (by omega) (by omega)
  have v2 : IntKind.i64.wrap (sl + z - 2) = sl + z - 2 := SK.wrap_id (by omega) (by omega)
  iterate 2 (refine LQ.stepDT rfl rfl (fun N hN => ?_); go_simp; apply Exists.intro; refine ⟨fun _ _ _ => ?_, hN _ _ ?_⟩; exact And.intro rfl rfl; clear hN N)
  refine LQ.stepOne ?_
  refine LQ.opN rfl rfl (fun N hN => ?_)
  go_simp
  refine ⟨fun f q _ => ?_, fun _ _ => hN _ _ ?_⟩
  · obtain ⟨x, x', X⟩ := q.y0
    have X' := X
    obtain ⟨g0, g1, g2, g3⟩ := X'
    go_simp
    exact store_f (by omega) (by omega) (Nat.le_refl _) q X
  clear hN N
  refine LQ.lexEndT ?_
  rintro w7 ⟨q, rfl⟩ kn
  have X : SK.Box q.w w.heap.size sl sh := (kn _ (List.mem_cons_self ..)).2
  clear kn kS0 kS1
  have B7 := q.bw
  generalize q.w = w7 at *
  obtain ⟨c0, c1, c2, c3⟩ := X
  simp only [List.drop]
  go_wp2
  refine bodyPost_ret (v := .tuple #[.agg #[.int .i64 sl, .int .i64 sh], .int .i64 (sl + z - 2)]) (by simp [results, Try.results15, go_sem, *]) rfl ⟨_, _, _, rfl, by omega, by omega, by omega, by omega, by omega, by omega, ?_⟩
  exact B7
end DF
end Go.Proofs.Ytgpnnaafialkjak
