/-
  The draw of a text of an angle, one in two bent: some text, whatever the code.
-/
import Derived.Test.YtlhkedollclfiagRows
import Derived.Test.YtlhkedollclfiagDrawKit
import Derived.Test.YtlhkedollclfiagDrawWalks
import Derived.Test.YtlhkedollclfiagDrawBig
import Derived.Test.YtlhkedollclfiagDrawAng
import Derived.Test.YtlhkedollclfiagAngTextWalks
import Derived.Test.YtlhkedollclfiagAngTurns
import Derived.Test.YtlhkedollclfiagLoose2
import Derived.Laws.Slices
import Derived.WalkKit
import Derived.WalkSpells
import Derived.Below
namespace Go.Proofs.Ytlhkedollclfiag
open Go.RowKit Go.Sort
set_option linter.unusedVariables false

namespace DW
open DK AW

/-- Seven short texts lie in block 'c'. -/
def Strs (w : World) (c : Nat) : Prop := ∀ j, j < 7 → ∃ s : ByteArray, s.size ≤ 20 ∧ w.cell? ⟨c, j, none⟩ = some (.string s)
theorem Strs.lt {w : World} {c : Nat} (h : Strs w c) : c < w.heap.size := by
  obtain ⟨s, _, hc⟩ := h 0 (by omega)
  exact DK.cell_lt hc
theorem Strs.kept {w w' : World} {c : Nat} (h : Strs w c) (k : Below w.heap.size w w') : Strs w' c := fun j hj => by
  obtain ⟨s, h1, hc⟩ := h j hj
  exact ⟨s, h1, (k.cell (p := ⟨c, j, none⟩) h.lt).trans hc⟩
theorem Strs.tch {w w' : World} {c k : Nat} (h : Strs w c) (t : Tch k w.heap.size w w') (hk : c ≠ k) : Strs w' c := fun j hj => by
  obtain ⟨s, h1, hc⟩ := h j hj
  exact ⟨s, h1, (t.cell h.lt hk).trans hc⟩
theorem Strs.new (w : World) (a b c d e f g : ByteArray) (t : TypeId) (ha : a.size ≤ 20) (hb : b.size ≤ 20) (hc : c.size ≤ 20) (hd : d.size ≤ 20) (he : e.size ≤ 20) (hf : f.size ≤ 20) (hg : g.size ≤ 20) :
    Strs (w.alloc (.cells #[.string a, .string b, .string c, .string d, .string e, .string f, .string g] t)) w.heap.size := fun j hj => by
  rcases (show j = 0 ∨ j = 1 ∨ j = 2 ∨ j = 3 ∨ j = 4 ∨ j = 5 ∨ j = 6 by omega) with rfl | rfl | rfl | rfl | rfl | rfl | rfl
  · exact ⟨a, ha, by simp [go_sem]⟩
  · exact ⟨b, hb, by simp [go_sem]⟩
  · exact ⟨c, hc, by simp [go_sem]⟩
  · exact ⟨d, hd, by simp [go_sem]⟩
  · exact ⟨e, he, by simp [go_sem]⟩
  · exact ⟨f, hf, by simp [go_sem]⟩
  · exact ⟨g, hg, by simp [go_sem]⟩
theorem rdOf_any (w : World) (k p c : Nat) (hp : p ≤ 1000000000) (h : Rd w k p) (hc : c ≠ k) (S : Strs w c) :
    Calls Try.prog 19 #[.pointer (some ⟨k, 0, none⟩), .slice (some ⟨c, 0, none⟩) 7 7] w fun e w' => ∃ s : ByteArray, e = .returned (.string s) ∧ s.size ≤ 20 ∧ Rd w' k (p + 1) ∧ Tch k w.heap.size w w' := by
  go_enter Try.func19, Try.ntmps19
  go_wp2_with fail
  refine (pick_any _ k p _ hp h).mono ?_
  rintro e w1 ⟨v, rfl, v0, v1, R1, T1⟩
  replace v1 := v1 (by omega)
  obtain ⟨s, s1, hs⟩ := S.tch T1 hc v.toNat (by omega)
  clear S h
  go_wp2
  go_ret
  exact ⟨s, rfl, s1, R1, T1⟩
/-- A world within the draw: the reader is read, nothing that was there is written. -/
structure Wa (n0 : Nat) (w0 : World) (k f : Nat) where
  w : World
  rd : ∃ p, Rd w k p ∧ p + 200 * f ≤ 800000000
  bw : Below n0 w0 w
abbrev Ca (n0 : Nat) (w0 : World) (k : Nat) : Nat → World → Prop := fun f w' => ∃ q : Wa n0 w0 k f, w' = q.w
theorem Ca.mono {n0 : Nat} {w0 : World} {k : Nat} : ∀ f w, Ca n0 w0 k (f + 1) w → Ca n0 w0 k f w := by
  rintro f w ⟨q, rfl⟩
  obtain ⟨p, h1, h2⟩ := q.rd
  exact ⟨⟨q.w, ⟨p, h1, by omega⟩, q.bw⟩, rfl⟩
theorem Ca.start {n0 k p : Nat} {w0 w : World} (n : Nat) (R : Rd w k p) (h : p + 200 * n ≤ 800000000) (B : Below n0 w0 w) : Ca n0 w0 k n { w with drawn := w.drawn + 1 } :=
  ⟨⟨w.drew, ⟨p, R.drew, h⟩, B.drew⟩, rfl⟩
def isList (k : Nat) (u : Value) (w : World) : Prop := ∃ c, u = .slice (some ⟨c, 0, none⟩) 7 7 ∧ c ≠ k ∧ Strs w c
def isStr (u : Value) : Prop := ∃ s : ByteArray, u = .string s ∧ s.size ≤ 20
def ndA (k : Nat) : Nat → Option (Act → Value → World → Prop) := fun i => if i = 4 then some (fun _ u w => isList k u w) else if i = 5 then some (fun _ u _ => isStr u) else none
theorem ndA_local {ops : Array Oper} (k : Nat) : LQ.Local ops (ndA k) := by
  intro j Φ oj hn _ a dst v _
  unfold ndA at hn
  split at hn
  · cases hn; rfl
  · split at hn
    · cases hn; rfl
    · cases hn
theorem ndA_keeps {k : Nat} {w w' : World} (h : ∀ c, c ≠ k → Strs w c → Strs w' c) : LQ.Keeps (ndA k) w w' := by
  intro i Φ a u hn hu
  unfold ndA at hn
  split at hn
  · cases hn
    obtain ⟨c, e, hk, N⟩ := hu
    exact ⟨c, e, hk, h c hk N⟩
  · split at hn
    · cases hn; exact hu
    · cases hn
theorem alloc_a {n0 : Nat} {w0 : World} {k f : Nat} (hn : n0 ≤ w0.heap.size) (q : Wa n0 w0 k (f + 1)) (o : Obj) (hS : Strs (q.w.alloc o) q.w.heap.size) :
    Ca n0 w0 k f (q.w.alloc o) ∧ isList k (.slice (some ⟨q.w.heap.size, 0, none⟩) 7 7) (q.w.alloc o) ∧ LQ.Keeps (ndA k) q.w (q.w.alloc o) := by
  obtain ⟨p, R, hp⟩ := q.rd
  have hb : Below q.w.heap.size q.w (q.w.alloc o) := below_new _ _
  have hk := R.lt
  exact ⟨⟨⟨_, ⟨p, R.alloc _, by omega⟩, q.bw.trans (hb.mono (Nat.le_trans hn q.bw.size))⟩, rfl⟩, ⟨_, rfl, by omega, hS⟩, ndA_keeps fun c _ N => N.kept hb⟩
theorem of_a {n0 : Nat} {w0 : World} {k f c : Nat} (hn : n0 ≤ k) (h0 : n0 ≤ w0.heap.size) (q : Wa n0 w0 k (f + 1)) (hc : c ≠ k) (S : Strs q.w c) :
    Calls Try.prog 19 #[.pointer (some ⟨k, 0, none⟩), .slice (some ⟨c, 0, none⟩) 7 7] q.w fun e w'' => ∃ u, e = .returned u ∧ Ca n0 w0 k f w'' ∧ isStr u ∧ LQ.Keeps (ndA k) q.w w'' := by
  obtain ⟨p, R, hp⟩ := q.rd
  refine (rdOf_any q.w k p c (by omega) R hc S).mono ?_
  rintro e w1 ⟨s, rfl, s1, R1, T1⟩
  exact ⟨_, rfl, ⟨⟨w1, ⟨_, R1, by omega⟩, q.bw.trans (T1.toBelow (Nat.le_trans h0 q.bw.size) hn)⟩, rfl⟩, ⟨s, rfl, s1⟩, ndA_keeps fun c hc N => N.tch T1 hc⟩
set_option maxHeartbeats 8000000 in
theorem drawAngRead_any (w : World) (a : Option Addr) (len cap : Nat) (h : Src w a len cap) :
    Calls Try.prog 7 #[.slice a len cap] w fun e w' => (∃ t : List UInt8, e = .returned (.string ⟨t.toArray⟩)) ∧ Below w.heap.size w w' := by
  have some : ∀ s : ByteArray, ∃ t : List UInt8, Ending.returned (.string s) = .returned (.string ⟨t.toArray⟩) := fun s => by
    obtain ⟨⟨t⟩⟩ := s
    exact ⟨t, rfl⟩
  have SM := Hide.mk some
  clear some
  go_enter Try.func7, Try.ntmps7
  go_wp2_with fail
  refine (l6Open_any _ _ _ _ h).mono ?_
  rintro e w1 ⟨rfl, R1, B1⟩
  clear h
  go_wp2_with fail
  refine (l71Ang_any _ _ _ (by omega) R1).mono ?_
  rintro e w2 ⟨v, p2, rfl, v0, v1, q2, R2, T2⟩
  have B := B1.trans (T2.toBelow B1.size (by omega))
  clear B1 T2 R1
  go_wp2_with fail
  refine (sText_any v _).mono ?_
  rintro e w3 ⟨rfl, B3⟩
  replace R2 := R2.kept B3
  replace B := below1 B B3
  have sz : (AT.textV v).length ≤ 14 := by
    have := AT.text_len v
    simp only [AT.textV]
    split
    · exact this.2
    · simp
  clear B3
  generalize AT.textV v = t at *
  go_wp2_with fail
  refine (pick_any _ _ _ _ (by omega) R2).mono ?_
  rintro e w4 ⟨g, rfl, g0, g1, R4, T4⟩
  replace g1 := g1 (by omega)
  replace B := B.trans (T4.toBelow B.size (by omega))
  clear T4 R2
  rcases (show g = 0 ∨ g = 1 by omega) with rfl | rfl
  · go_wp2
    go_ret
    exact ⟨SM.out _, B⟩
  · by_cases hs : t = []
    · subst hs
      go_wp2
      go_ret
      exact ⟨SM.out _, B⟩
    · have hs' : (t == []) = false := beq_false_of_ne hs
      have s1 : 1 ≤ t.length := by
        cases t with
        | nil => exact absurd rfl hs
        | cons b r => simp
      clear hs
      go_wp2_with fail
      refine (pick_any _ _ _ _ (by omega) R4).mono ?_
      rintro e w5 ⟨i, rfl, i0, i1, R5, T5⟩
      replace i1 := i1 (by omega)
      replace B := B.trans (T5.toBelow B.size (by omega))
      clear T5 R4
      go_wp2_with fail
      refine (pick_any _ _ _ _ (by omega) R5).mono ?_
      rintro e w6 ⟨j, rfl, j0, j1, R6, T6⟩
      replace j1 := j1 (by omega)
      replace B := B.trans (T6.toBelow B.size (by omega))
      clear T6 R5
      have szs : (ByteArray.mk t.toArray).size = t.length := by simp [ByteArray.size]
      obtain ⟨x1, hx1, sx1⟩ : ∃ x : ByteArray, (∀ w : World, (Instr.slice 9 (.string ⟨t.toArray⟩) none (some (.int .i64 i)) none).run Try.prog w = .ok (.string x) w) ∧ x.size ≤ 14 := ⟨_, fun w => run_slice_string_h w 9 ⟨t.toArray⟩ Try.underlying9 .i64 i i0 (by omega), by simp [ByteArray.size_extract]; omega⟩
      obtain ⟨x2, hx2, sx2⟩ : ∃ x : ByteArray, (∀ w : World, (Instr.slice 9 (.string ⟨t.toArray⟩) (some (.int .i64 i)) none none).run Try.prog w = .ok (.string x) w) ∧ x.size ≤ 14 := ⟨_, fun w => run_slice_string_l w 9 ⟨t.toArray⟩ Try.underlying9 .i64 i i0 (by omega), by simp [ByteArray.size_extract]; omega⟩
      obtain ⟨x3, hx3, sx3⟩ : ∃ x : ByteArray, (∀ w : World, (Instr.slice 9 (.string ⟨t.toArray⟩) (some (.int .i64 (i + 1))) none none).run Try.prog w = .ok (.string x) w) ∧ x.size ≤ 14 := ⟨_, fun w => run_slice_string_l w 9 ⟨t.toArray⟩ Try.underlying9 .i64 (i + 1) (by omega) (by omega), by simp [ByteArray.size_extract]; omega⟩
      rcases (show j = 0 ∨ j = 1 ∨ j = 2 ∨ j = 3 by omega) with rfl | rfl | rfl | rfl
      · have z13 : x1.size + x3.size ≤ 9223372036854775807 := by omega
        go_wp2_with fail
        go_region
        go_wp2
        go_ret
        exact ⟨SM.out _, B.drew⟩
      · have hk6 := R6.lt
        have B6 := B.size
        go_wp2_with fail
        refine LQ.region (Ca w.heap.size w w.heap.size) (ndA w.heap.size) 11 [0, 1, 2, 3, 7, 8, 9, 4, 5, 6, 10] (ndA_local _) (by kernel_rfl) (by kernel_rfl) Ca.mono (Ca.start 11 R6 (by omega) B) ?_
        iterate 7 (refine LQ.stepD rfl rfl (fun N hN => ?_); go_simp; apply Exists.intro; refine ⟨fun _ _ _ => ?_, hN _ _ ?_⟩; exact And.intro rfl rfl; clear hN N)
        refine LQ.stepN rfl rfl (fun N hN => ?_)
        go_simp
        refine ⟨fun f q _ => alloc_a (Nat.le_refl _) q _ (Strs.new _ _ _ _ _ _ _ _ _ (by decide) (by decide) (by decide) (by decide) (by decide) (by decide) (by decide)), ?_⟩
        rintro u wn ⟨cn, rfl, hcn, Nn⟩
        refine hN _ _ ?_
        clear hN N Nn wn
        refine LQ.stepN rfl rfl (fun N hN => ?_)
        go_simp
        refine ⟨fun f q hk => And.intro rfl ?_, ?_⟩
        · obtain ⟨cx, ex, hcx, Nx⟩ := (hk _ (List.mem_cons_self ..)).2
          cases ex
          exact of_a (Nat.le_refl _) (Nat.le_refl _) q hcx Nx
        rintro u ⟨s5, rfl, z5⟩
        refine hN _ _ ?_
        clear hN N
        have z6 : ¬ 9223372036854775807 < x1.size + s5.size := by omega
        have z7 : ¬ 9223372036854775807 < x1.size + s5.size + x2.size := by omega
        iterate 2 (refine LQ.stepD rfl rfl (fun N hN => ?_); go_simp; apply Exists.intro; refine ⟨fun _ _ _ => ?_, hN _ _ ?_⟩; exact And.intro rfl rfl; clear hN N)
        refine LQ.lexEnd ?_
        rintro w7 ⟨q, rfl⟩ kn
        clear kn
        have B7 := q.bw
        generalize q.w = w7 at *
        simp only [List.drop]
        go_wp2
        go_ret
        exact ⟨SM.out _, B7⟩
      · have hS : Strs (w6.alloc (.cells #[.string ⟨#[]⟩, .string ⟨#[45, 48, 100, 48, 48, 109, 48, 48, 46, 48, 48, 115]⟩, .string ⟨#[51, 54, 49, 100, 48, 48, 109, 48, 48, 46, 48, 48, 115]⟩, .string ⟨#[49, 100, 54, 48, 109, 48, 48, 46, 48, 48, 115]⟩, .string ⟨#[48, 49, 100, 48, 48, 109, 48, 48, 46, 48, 48, 115]⟩, .string ⟨#[49, 100, 48, 109, 48, 48, 46, 48, 48, 115]⟩, .string ⟨#[49, 100, 48, 48, 109, 48, 48, 115]⟩] 9)) w6.heap.size := Strs.new _ _ _ _ _ _ _ _ _ (by decide) (by decide) (by decide) (by decide) (by decide) (by decide) (by decide)
        have hk6 := R6.lt
        replace R6 := R6.alloc (.cells #[.string ⟨#[]⟩, .string ⟨#[45, 48, 100, 48, 48, 109, 48, 48, 46, 48, 48, 115]⟩, .string ⟨#[51, 54, 49, 100, 48, 48, 109, 48, 48, 46, 48, 48, 115]⟩, .string ⟨#[49, 100, 54, 48, 109, 48, 48, 46, 48, 48, 115]⟩, .string ⟨#[48, 49, 100, 48, 48, 109, 48, 48, 46, 48, 48, 115]⟩, .string ⟨#[49, 100, 48, 109, 48, 48, 46, 48, 48, 115]⟩, .string ⟨#[49, 100, 48, 48, 109, 48, 48, 115]⟩] 9)
        go_wp2_with fail
        refine (rdOf_any _ _ _ _ (by omega) R6 (by omega) hS).mono ?_
        rintro e w7 ⟨s7, rfl, sz7, R7, T7⟩
        replace B := (below1 B (below_new w6 _)).trans (T7.toBelow (by simp; have := B.size; omega) (by omega))
        clear hS T7 R6 R7
        go_wp2
        go_ret
        exact ⟨SM.out _, B⟩
      · go_wp2
        go_ret
        exact ⟨SM.out _, B⟩
end DW
end Go.Proofs.Ytlhkedollclfiag
