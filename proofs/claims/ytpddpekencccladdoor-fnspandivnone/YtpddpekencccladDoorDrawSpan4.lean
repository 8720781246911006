/-
  The draws of spans whose statements draw their order.
-/
import Derived.Test.YtpddpekencccladDoorRows
import Derived.Test.YtpddpekencccladDoorDrawKit
import Derived.Test.YtpddpekencccladDoorDrawWalks
import Derived.Test.YtpddpekencccladDoorDrawBig
import Derived.Test.YtpddpekencccladDoorDrawSpan
import Derived.Test.YtpddpekencccladDoorDrawSpan2
import Derived.Test.YtpddpekencccladDoorDrawSpan3
import Derived.Test.YtpddpekencccladDoorSpanWalks
import Derived.Test.YtpddpekencccladDoorLoose2
import Derived.Test.YtpddpekencccladDoorQuietTail
import Derived.RegionTactic
import Derived.WalkKit
import Derived.Below
import Derived.Lib.MinMax
namespace Go.Proofs.YtpddpekencccladDoor
open Go.RowKit Go.Sort
set_option linter.unusedVariables false

namespace DW
open DK SW

/-- A world in which the reader has gone on from 'w0', so many draws being left. -/
structure Wd (k : Nat) (w0 : World) (f : Nat) where
  w : World
  rd : ∃ p, Rd w k p ∧ p + 200 * f ≤ 800000000
  tc : Tch k w0.heap.size w0 w
abbrev Cr (k : Nat) (w0 : World) : Nat → World → Prop := fun f w' => ∃ q : Wd k w0 f, w' = q.w
theorem Cr.mono {k : Nat} {w0 : World} : ∀ f w, Cr k w0 (f + 1) w → Cr k w0 f w := by
  rintro f w ⟨q, rfl⟩
  obtain ⟨p, h1, h2⟩ := q.rd
  exact ⟨⟨q.w, ⟨p, h1, by omega⟩, q.tc⟩, rfl⟩
theorem Cr.start {k p : Nat} {w0 : World} (n : Nat) (R : Rd w0 k p) (h : p + 200 * n ≤ 800000000) : Cr k w0 n { w0 with drawn := w0.drawn + 1 } :=
  ⟨⟨w0.drew, ⟨p, R.drew, h⟩, (Tch.refl _ _ _).drew⟩, rfl⟩
/-- Values of which only themselves are known. -/
def ndV (g : Nat → Option (Value → Prop)) : Nat → Option (Act → Value → World → Prop) := fun i => (g i).map fun φ _ u _ => φ u
theorem ndV_local {ops : Array Oper} (g : Nat → Option (Value → Prop)) : LQ.Local ops (ndV g) := by
  intro j Φ oj hn _ a dst v _
  unfold ndV at hn
  obtain ⟨φ, _, rfl⟩ := Option.map_eq_some_iff.1 hn
  rfl
theorem ndV_keeps {g : Nat → Option (Value → Prop)} {w w' : World} : LQ.Keeps (ndV g) w w' := by
  intro i Φ a u hn h
  unfold ndV at hn
  obtain ⟨φ, _, rfl⟩ := Option.map_eq_some_iff.1 hn
  exact h
theorem pick_loose {g : Nat → Option (Value → Prop)} {k f : Nat} {w0 : World} (q : Wd k w0 (f + 1)) (n : Int) (hn : 1 ≤ n) :
    Calls Tryd.prog 35 #[.pointer (some ⟨k, 0, none⟩), .int .i64 n] q.w fun e w'' => ∃ u, e = .returned u ∧ Cr k w0 f w'' ∧ (∃ z : Int, u = .int .i64 z ∧ 0 ≤ z ∧ z < n) ∧ LQ.Keeps (ndV g) q.w w'' := by
  obtain ⟨p, R, hp⟩ := q.rd
  refine (pick_any q.w k p n (by omega) R).mono ?_
  rintro e w1 ⟨v, rfl, v0, v1, R1, T1⟩
  exact ⟨_, rfl, ⟨⟨w1, ⟨_, R1, by omega⟩, q.tc.trans (T1.mono q.tc.size)⟩, rfl⟩, ⟨v, rfl, v0, v1 hn⟩, ndV_keeps⟩
theorem span_loose {g : Nat → Option (Value → Prop)} {k f : Nat} {w0 : World} (q : Wd k w0 (f + 1)) :
    Calls Tryd.prog 40 #[.pointer (some ⟨k, 0, none⟩)] q.w fun e w'' => ∃ u, e = .returned u ∧ Cr k w0 f w'' ∧ (∃ l h : Int, u = spV l h ∧ -1073000500 ≤ l ∧ l ≤ 1073000500 ∧ -1073000500 ≤ h ∧ h ≤ 1073000500) ∧ LQ.Keeps (ndV g) q.w w'' := by
  obtain ⟨p, R, hp⟩ := q.rd
  refine (l71Span_any q.w k p (by omega) R).mono ?_
  rintro e w1 ⟨l, h, p1, rfl, l0, l1, h0, h1, q1, R1, T1⟩
  exact ⟨_, rfl, ⟨⟨w1, ⟨_, R1, by omega⟩, q.tc.trans (T1.mono q.tc.size)⟩, rfl⟩, ⟨l, h, rfl, l0, l1, h0, h1⟩, ndV_keeps⟩
def isNum (n : Int) (u : Value) : Prop := ∃ z : Int, u = .int .i64 z ∧ 0 ≤ z ∧ z < n
def isSpan (u : Value) : Prop := ∃ l h : Int, u = spV l h ∧ -1073000500 ≤ l ∧ l ≤ 1073000500 ∧ -1073000500 ≤ h ∧ h ≤ 1073000500

theorem Box.low {w : World} {b : Nat} {x y : Int} (h : Box w b x y) (x' : Int) : Box (w.setCell ⟨b, 0, none⟩ (.int .i64 x')) b x' y := by
  obtain ⟨c0, c1, f0, f1⟩ := h
  exact ⟨by simp [go_sem, *], by simp [go_sem, *], by simp [go_sem, *], by simp [go_sem, *]⟩
theorem Box.high {w : World} {b : Nat} {x y : Int} (h : Box w b x y) (y' : Int) : Box (w.setCell ⟨b, 1, none⟩ (.int .i64 y')) b x y' := by
  obtain ⟨c0, c1, f0, f1⟩ := h
  exact ⟨by simp [go_sem, *], by simp [go_sem, *], by simp [go_sem, *], by simp [go_sem, *]⟩
/-- While two spans are drawn: the reader, the places of the answers, the two spans so far. -/
structure Du (w : World) (k b : Nat) (sl sh tl th : Int) (p : Nat) (w' : World) : Prop where
  rd : Rd w' k p
  bw : Below w.heap.size w w'
  y : Box w' w.heap.size 0 0
  z : Box w' (w.heap.size + 1) 0 0
  s : Box w' b sl sh
  t : Box w' (b + 1) tl th
  hk : w.heap.size + 2 ≤ k
  hb : k < b
theorem Du.pick {w w' w'' : World} {k b p p' : Nat} {sl sh tl th : Int} (d : Du w k b sl sh tl th p w') (R : Rd w'' k p') (T : Tch k w'.heap.size w' w'') : Du w k b sl sh tl th p' w'' := by
  have := d.hk
  have := d.hb
  exact ⟨R, d.bw.trans (T.toBelow d.bw.size (by omega)), Box.tch d.y T d.y.lt (by omega), Box.tch d.z T d.z.lt (by omega), Box.tch d.s T d.s.lt (by omega), Box.tch d.t T d.t.lt (by omega), d.hk, d.hb⟩
theorem Du.low {w w' : World} {k b p : Nat} {sl sh tl th : Int} (d : Du w k b sl sh tl th p w') (x : Int) : Du w k b sl sh x th p (w'.setCell ⟨b + 1, 0, none⟩ (.int .i64 x)) := by
  have := d.hk
  have := d.hb
  exact ⟨Rd.setHi d.rd (by omega), d.bw.setCell (by simp; omega) _, d.y.apart (by omega) _, d.z.apart (by omega) _, d.s.apart (by omega) _, Box.low d.t x, d.hk, d.hb⟩
theorem Du.high {w w' : World} {k b p : Nat} {sl sh tl th : Int} (d : Du w k b sl sh tl th p w') (x : Int) : Du w k b sl sh tl x p (w'.setCell ⟨b + 1, 1, none⟩ (.int .i64 x)) := by
  have := d.hk
  have := d.hb
  exact ⟨Rd.setHi d.rd (by omega), d.bw.setCell (by simp; omega) _, d.y.apart (by omega) _, d.z.apart (by omega) _, d.s.apart (by omega) _, Box.high d.t x, d.hk, d.hb⟩

set_option maxHeartbeats 4000000 in
theorem drawSpanDiv_any (w : World) (a : Option Addr) (len cap : Nat) (h : Src w a len cap) :
    Calls Tryd.prog 16 #[.slice a len cap] w fun e w' => ∃ sl sh tl th : Int, e = .returned (.tuple #[spV sl sh, spV tl th]) ∧ -1073000600 ≤ sl ∧ sl ≤ 1073000600 ∧ -1073000600 ≤ sh ∧ sh ≤ 1073000600 ∧ -1073000600 ≤ tl ∧ tl ≤ 1073000600 ∧ -1073000600 ≤ th ∧ th ≤ 1073000600 ∧ Below w.heap.size w w' := by
  go_enter Tryd.func16, Tryd.ntmps16
  go_wp2_with fail
  refine (l6Open_any _ _ _ _ ((h.kept (below_new w _)).kept (below_new _ _))).mono ?_
  rintro e w1 ⟨rfl, R1, B1⟩
  have Y := ((Box.new w 0 0 24).alloc _).kept B1
  have Z := (Box.new2 w _ 0 0 24).kept B1
  have B := below1 (below_new2 w _ _) B1
  have hk : w.heap.size + 2 ≤ ((w.alloc (.cells #[.int .i64 0, .int .i64 0] 24)).alloc (.cells #[.int .i64 0, .int .i64 0] 24)).heap.size := by simp
  generalize hkk : ((w.alloc (.cells #[.int .i64 0, .int .i64 0] 24)).alloc (.cells #[.int .i64 0, .int .i64 0] 24)).heap.size = k at *
  clear B1 h hkk
  go_wp2_with fail
  refine (l71Two_any _ _ _ (by omega) R1).mono ?_
  rintro e w2 ⟨sl, sh, tl, th, p2, rfl, l0, l1, h0, h1, m0, m1, n0, n1, q2, R2, T2⟩
  replace Y := Box.tch Y T2 Y.lt (by omega)
  replace Z := Box.tch Z T2 Z.lt (by omega)
  replace B := B.trans (T2.toBelow B.size (by omega))
  have hk2 := R2.lt
  clear T2 R1
  have DD : Du w k w2.heap.size sl sh tl th p2 ((w2.alloc (.cells #[.int .i64 sl, .int .i64 sh] 24)).alloc (.cells #[.int .i64 tl, .int .i64 th] 24)) :=
    ⟨(R2.alloc _).alloc _, below1 B (below_new2 w2 _ _), (Y.alloc _).alloc _, (Z.alloc _).alloc _, (Box.new w2 sl sh _).alloc _, Box.new2 w2 _ tl th _, hk, hk2⟩
  clear Y Z B R2
  go_wp2_with fail
  refine (pick_any _ _ _ _ (by omega) DD.rd).mono ?_
  rintro e w3 ⟨v, rfl, v0, v1, R3, T3⟩
  replace v1 := v1 (by omega)
  replace DD := DD.pick R3 T3
  clear R3 T3
  generalize w2.heap.size = b at *
  rcases (show v = 0 ∨ 0 < v by omega) with rfl | v2
  · have n1 : ¬ b = w.heap.size := by omega
    have n2 : ¬ b = w.heap.size + 1 := by omega
    have n3 : ¬ b + 1 = w.heap.size := by omega
    have n4 : ¬ b + 1 = w.heap.size + 1 := by omega
    have n5 : ¬ w.heap.size = b := by omega
    have n6 : ¬ w.heap.size + 1 = b := by omega
    have n7 : ¬ w.heap.size = b + 1 := by omega
    have n8 : ¬ w.heap.size + 1 = b + 1 := by omega
    obtain ⟨y0, y1, y2, y3⟩ := DD.y
    obtain ⟨z0, z1, z2, z3⟩ := DD.z
    obtain ⟨s0, s1, s2, s3⟩ := DD.s
    obtain ⟨t0, t1, t2, t3⟩ := DD.t
    go_wp2_with fail
    go_region
    all_goals go_wp2
    all_goals refine bodyPost_ret (v := .tuple #[.agg #[.int .i64 sl, .int .i64 sh], .agg #[.int .i64 (tl), .int .i64 (th)]]) (by simp [results, Tryd.results16, go_sem, *]) rfl ⟨_, _, _, _, rfl, by omega, by omega, by omega, by omega, by omega, by omega, by omega, by omega, ?_⟩
    all_goals (repeat (first | exact DD.bw | apply Below.drew | refine Below.setCell ?_ (by simp) _))
  · go_wp2_with fail
    refine (pick_any _ _ _ _ (by omega) DD.rd).mono ?_
    rintro e w4 ⟨u, rfl, u0, u1, R4, T4⟩
    replace u1 := u1 (by omega)
    replace DD := DD.pick R4 T4
    clear R4 T4
    have ⟨t0, t1, t2, t3⟩ := DD.t
    have D5 := DD.low (536500000 - u)
    generalize hw5 : w4.setCell ⟨b + 1, 0, none⟩ (.int .i64 (536500000 - u)) = w5 at *
    have hlt := D5.t.lt
    have kT0 : ∀ f (q : Wd k w5 f), q.w.cell? ⟨b + 1, 0, none⟩ = some (.int .i64 (536500000 - u)) := fun f q => (Box.tch D5.t q.tc D5.t.lt (by omega)).c0
    go_wp2_with fail
    clear t0 t1 t2 t3 DD hw5
    refine LQ.region (Cr k w5) (ndV fun i => if i = 3 then some (isNum 1000) else none) 6 [0, 1, 2, 3, 4, 5] (ndV_local _) (by kernel_rfl) (by kernel_rfl) Cr.mono (Cr.start 6 D5.rd (by omega)) ?_
    iterate 3 (refine LQ.stepD rfl rfl (fun N hN => ?_); go_simp; apply Exists.intro; refine ⟨fun _ _ _ => ?_, hN _ _ ?_⟩; exact And.intro rfl rfl; clear hN N)
    refine LQ.stepN rfl rfl (fun N hN => ?_)
    go_simp
    refine ⟨fun f q _ => And.intro rfl (pick_loose q 1000 (by omega)), ?_⟩
    rintro u ⟨x, rfl, x0, x1⟩
    refine hN _ _ ?_
    clear hN N
    have u9 : IntKind.i64.wrap (536500000 - u + x) = 536500000 - u + x := wrap_id (by omega) (by omega)
    iterate 2 (refine LQ.stepD rfl rfl (fun N hN => ?_); go_simp; apply Exists.intro; refine ⟨fun _ _ _ => ?_, hN _ _ ?_⟩; exact And.intro rfl rfl; clear hN N)
    clear u9
    refine LQ.lexEnd ?_
    rintro w6 ⟨q, rfl⟩ kn
    clear kn kT0
    obtain ⟨p6, R6, q6⟩ := q.rd
    have D6 := D5.pick R6 q.tc
    generalize q.w = w6 at *
    clear D5 R6
    have ⟨t0, t1, t2, t3⟩ := D6.t
    have D7 := D6.high (536500000 - u + x)
    simp only [List.drop]
    go_wp2_with fail
    clear t0 t1 t2 t3
    generalize hw7 : w6.setCell ⟨b + 1, 1, none⟩ (.int .i64 (536500000 - u + x)) = w7 at *
    clear hw7 D6
    refine (pick_any _ _ _ _ (by omega) D7.rd).mono ?_
    rintro e w8 ⟨s, rfl, s0', s1', R8, T8⟩
    replace s1' := s1' (by omega)
    have DD := D7.pick R8 T8
    clear R8 T8 D7
    rcases (show s = 0 ∨ s = 1 by omega) with rfl | rfl
    · have n1 : ¬ b = w.heap.size := by omega
      have n2 : ¬ b = w.heap.size + 1 := by omega
      have n3 : ¬ b + 1 = w.heap.size := by omega
      have n4 : ¬ b + 1 = w.heap.size + 1 := by omega
      have n5 : ¬ w.heap.size = b := by omega
      have n6 : ¬ w.heap.size + 1 = b := by omega
      have n7 : ¬ w.heap.size = b + 1 := by omega
      have n8 : ¬ w.heap.size + 1 = b + 1 := by omega
      obtain ⟨y0, y1, y2, y3⟩ := DD.y
      obtain ⟨z0, z1, z2, z3⟩ := DD.z
      obtain ⟨s0, s1, s2, s3⟩ := DD.s
      obtain ⟨t0, t1, t2, t3⟩ := DD.t
      go_wp2_with fail
      go_region
      all_goals go_wp2
      all_goals refine bodyPost_ret (v := .tuple #[.agg #[.int .i64 sl, .int .i64 sh], .agg #[.int .i64 (-(536500000 - u + x)), .int .i64 (-(536500000 - u))]]) (by simp [results, Tryd.results16, go_sem, *]) rfl ⟨_, _, _, _, rfl, by omega, by omega, by omega, by omega, by omega, by omega, by omega, by omega, ?_⟩
      all_goals (repeat (first | exact DD.bw | apply Below.drew | refine Below.setCell ?_ (by simp) _))
    · have n1 : ¬ b = w.heap.size := by omega
      have n2 : ¬ b = w.heap.size + 1 := by omega
      have n3 : ¬ b + 1 = w.heap.size := by omega
      have n4 : ¬ b + 1 = w.heap.size + 1 := by omega
      have n5 : ¬ w.heap.size = b := by omega
      have n6 : ¬ w.heap.size + 1 = b := by omega
      have n7 : ¬ w.heap.size = b + 1 := by omega
      have n8 : ¬ w.heap.size + 1 = b + 1 := by omega
      obtain ⟨y0, y1, y2, y3⟩ := DD.y
      obtain ⟨z0, z1, z2, z3⟩ := DD.z
      obtain ⟨s0, s1, s2, s3⟩ := DD.s
      obtain ⟨t0, t1, t2, t3⟩ := DD.t
      go_wp2_with fail
      go_region
      all_goals go_wp2
      all_goals refine bodyPost_ret (v := .tuple #[.agg #[.int .i64 sl, .int .i64 sh], .agg #[.int .i64 (536500000 - u), .int .i64 (536500000 - u + x)]]) (by simp [results, Tryd.results16, go_sem, *]) rfl ⟨_, _, _, _, rfl, by omega, by omega, by omega, by omega, by omega, by omega, by omega, by omega, ?_⟩
      all_goals (repeat (first | exact DD.bw | apply Below.drew | refine Below.setCell ?_ (by simp) _))

end DW
end Go.Proofs.YtpddpekencccladDoor
