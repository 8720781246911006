/-
  Numbers written in decimals, by the specification: what its l6Dec and l11Two answer.
-/
import Derived.Test.YtfdkpcejjcifgauRows
import Derived.Test.YtfdkpcejjcifgauAngText
import Derived.Test.YtfdkpcejjcifgauLoose2
import Derived.Laws.IdiomStrings
import Derived.Laws.Concat
import Derived.WalkKit
import Derived.Below
import Derived.Lib.QuietBelow
namespace Go.Proofs.Ytfdkpcejjcifgau
open Go.RowKit Go.Sort
set_option linter.unusedVariables false
namespace AW
open AM AT
theorem below1 {w w1 w2 : World} (B1 : Below w.heap.size w w1) (B2 : Below w1.heap.size w1 w2) : Below w.heap.size w w2 := B1.trans (B2.mono B1.size)
theorem below_new (w : World) (o : Obj) : Below w.heap.size w (w.alloc o) := (Below.refl _ _).alloc (Nat.le_refl _) _
theorem wrap64 {x : Int} (h1 : -9223372036854775808 ≤ x) (h2 : x ≤ 9223372036854775807) : IntKind.i64.wrap x = x := by
  simp only [IntKind.wrap, IntKind.signed, IntKind.bits]
  simp
  omega
theorem wrap8 {x : Int} (h1 : 0 ≤ x) (h2 : x ≤ 255) : IntKind.u8.wrap x = x := by
  simp only [IntKind.wrap, IntKind.signed, IntKind.bits]
  simp
  omega
theorem cat (l m : List UInt8) : (⟨l.toArray⟩ : ByteArray) ++ ⟨m.toArray⟩ = ⟨(l ++ m).toArray⟩ := by
  exact ByteArray.mk_append_mk l m
theorem ret_str {a b : ByteArray} (h : a = b) : Ending.returned (.string a) = .returned (.string b) := by rw [h]
theorem str_of {w : World} {b cap : Nat} (l : List UInt8) (h : ∀ j (hj : j < l.length), w.cell? ⟨b, j, none⟩ = some (.int .u8 (l[j].toNat : Int))) :
    (convert 64 9 (.slice (some ⟨b, 0, none⟩) l.length cap)).run Try.prog w = .ok (.string ⟨l.toArray⟩) w :=
  run_convert_bytes_back w _ _ 5 ⟨b, 0, none⟩ cap l Try.underlying64 Try.underlying5 Try.underlying9 fun j hj => by
    have e : (⟨b, 0, none⟩ : Addr).add j = ⟨b, j, none⟩ := by unfold Addr.add; by_cases h : j = 0 <;> simp [h]
    rw [e]
    exact h j hj
theorem two_any (n : Int) (w : World) (h0 : 0 ≤ n) (h1 : n ≤ 99) :
    Calls Try.prog 36 #[.int .i64 n] w fun e w' => e = .returned (.string ⟨(two n).toArray⟩) ∧ Below w.heap.size w w' := by
  have e0 := fig_nat (n := n / 10) (by omega) (by omega)
  have e1 := fig_nat (n := n % 10) (by omega) (by omega)
  have hcv : (convert 64 9 (.slice (some ⟨w.heap.size, 0, none⟩) 2 2)).run Try.prog (w.alloc (.cells #[.int .u8 (48 + n / 10), .int .u8 (48 + n % 10)] 5)) = .ok (.string ⟨(two n).toArray⟩) (w.alloc (.cells #[.int .u8 (48 + n / 10), .int .u8 (48 + n % 10)] 5)) :=
    str_of (two n) fun j hj => by
      rcases (show j = 0 ∨ j = 1 by simp [two] at hj; omega) with rfl | rfl
      · simp [go_sem, two, e0]
      · simp [go_sem, two, e1]
  clear e0 e1
  generalize two n = l at *
  go_enter Try.func36, Try.ntmps36
  go_wp2
  go_ret
  exact ⟨rfl, below_new _ _⟩
theorem one_str (n : Int) (w : World) (h0 : 0 ≤ n) (h1 : n ≤ 9) :
    (convert 64 9 (.slice (some ⟨w.heap.size, 0, none⟩) 1 1)).run Try.prog (w.alloc (.cells #[.int .u8 (48 + n)] 5)) = .ok (.string ⟨#[fig n]⟩) (w.alloc (.cells #[.int .u8 (48 + n)] 5)) :=
  str_of [fig n] fun j hj => by
    have e0 := fig_nat (n := n) (by omega) (by omega)
    rcases (show j = 0 by simp at hj; omega) with rfl
    simp [go_sem, e0]
theorem dec_1 (n : Int) (w : World) (h0 : 0 ≤ n) (h1 : n ≤ 9) :
    Calls Try.prog 35 #[.int .i64 n] w fun e w' => e = .returned (.string ⟨#[fig n]⟩) ∧ Below w.heap.size w w' := by
  have hcv := one_str n w h0 h1
  go_enter Try.func35, Try.ntmps35
  go_wp2
  go_ret
  exact ⟨rfl, below_new _ _⟩
/-- One new block with one byte; all else ends in 'Below'. -/
abbrev Cl (w : World) : Nat → World → Prop := fun _ w' => ∃ p : Regrown, w' = grow (redrawn w p.d) p.os
theorem Cl.start (w : World) (n : Nat) : Cl w n { w with drawn := w.drawn + 1 } := ⟨⟨w.drawn + 1, #[]⟩, by rw [grow_empty]; rfl⟩
def isByte (z : Int) (u : Value) (w : World) : Prop := ∃ b, u = .slice (some ⟨b, 0, none⟩) 1 1 ∧ w.cell? ⟨b, 0, none⟩ = some (.int .u8 z)
def ndB (m : Nat) (z : Int) : Nat → Option (Act → Value → World → Prop) := fun i => if i = m then some (fun _ u w => isByte z u w) else none
theorem ndB_local {ops : Array Oper} (m : Nat) (z : Int) : LQ.Local ops (ndB m z) := by
  intro j Φ oj hn _ a dst v _
  unfold ndB at hn
  split at hn
  · cases hn; rfl
  · cases hn
theorem cell_lt {w : World} {a : Addr} {v : Value} (h : w.cell? a = some v) : a.block < w.heap.size := by
  by_cases c : a.block < w.heap.size
  · exact c
  · have e : w.heap[a.block]? = none := by simp; omega
    simp [World.cell?, e] at h
theorem keeps {m : Nat} {z : Int} {w w' : World} (h : Below w.heap.size w w') : LQ.Keeps (ndB m z) w w' := by
  intro i Φ a u hn hu
  unfold ndB at hn
  split at hn
  · cases hn
    obtain ⟨b, e, hc⟩ := hu
    exact ⟨b, e, (h.cell (cell_lt hc)).trans hc⟩
  · cases hn
theorem of_below {f : FuncId} {args : Array Value} {w : World} {d : Nat} {os : Array Obj} {v : Value} {m : Nat} {z : Int}
    (h : Calls Try.prog f args (grow (redrawn w d) os) fun e w' => e = .returned v ∧ Below (grow (redrawn w d) os).heap.size (grow (redrawn w d) os) w') :
    Calls Try.prog f args (grow (redrawn w d) os) fun e w'' => e = .returned v ∧ (∃ p : Regrown, w'' = grow (redrawn w p.d) p.os) ∧ LQ.Keeps (ndB m z) (grow (redrawn w d) os) w'' :=
  h.mono fun _ _ ⟨he, hb⟩ => ⟨he, regrown_of_below (below1 (below_regrown w d os) hb), keeps hb⟩
theorem alloc_b (w : World) (d : Nat) (os : Array Obj) (m : Nat) (z : Int) (t : TypeId) (n : Nat) (hn : n = (grow (redrawn w d) os).heap.size) : (∃ p : Regrown, (grow (redrawn w d) os).alloc (.cells #[.int .u8 z] t) = grow (redrawn w p.d) p.os) ∧
    isByte z (.slice (some ⟨n, 0, none⟩) 1 1) ((grow (redrawn w d) os).alloc (.cells #[.int .u8 z] t)) ∧ LQ.Keeps (ndB m z) (grow (redrawn w d) os) ((grow (redrawn w d) os).alloc (.cells #[.int .u8 z] t)) :=
  ⟨regrown_of_below (below1 (below_regrown w d os) (below_new _ _)), ⟨_, rfl, by rw [hn]; simp [go_sem]⟩, keeps (below_new _ _)⟩
theorem dec_more (n : Int) (w : World) (h0 : 10 ≤ n) (h1 : n ≤ 999) (l : List UInt8)
    (hl : l.length ≤ 2) (c : ∀ w, Calls Try.prog 35 #[.int .i64 (n / 10)] w fun e w' => e = .returned (.string ⟨l.toArray⟩) ∧ Below w.heap.size w w') :
    Calls Try.prog 35 #[.int .i64 n] w fun e w' => e = .returned (.string ⟨(l ++ [fig (n % 10)]).toArray⟩) ∧ Below w.heap.size w w' := by
  have q : ∀ d os, Calls Try.prog 35 #[.int .i64 (n / 10)] (grow (redrawn w d) os) fun e w'' => e = .returned (.string ⟨l.toArray⟩) ∧ (∃ p : Regrown, w'' = grow (redrawn w p.d) p.os) ∧ LQ.Keeps (ndB 7 (48 + n % 10)) (grow (redrawn w d) os) w'' := fun d os => of_below (c _)
  have hcv : ∀ w b, w.cell? ⟨b, 0, none⟩ = some (.int .u8 (48 + n % 10)) → (convert 64 9 (.slice (some ⟨b, 0, none⟩) 1 1)).run Try.prog w = .ok (.string ⟨#[fig (n % 10)]⟩) w := fun w b hb =>
    str_of [fig (n % 10)] fun j hj => by
      have e0 := fig_nat (n := n % 10) (by omega) (by omega)
      rcases (show j = 0 by simp at hj; omega) with rfl
      simpa [e0] using hb
  go_enter Try.func35, Try.ntmps35
  go_wp2_with fail
  refine LQ.region (Cl w) (ndB 7 (48 + n % 10)) 10 [0, 1, 3, 4, 5, 6, 2, 7, 8, 9] (ndB_local _ _) (by kernel_rfl) (by kernel_rfl) (fun _ _ h => h) (Cl.start w 10) ?_
  have t1 : n.tdiv 10 = n / 10 := Int.tdiv_eq_ediv_of_nonneg (by omega)
  have t2 : n.tmod 10 = n % 10 := Int.tmod_eq_emod_of_nonneg (by omega)
  have u1 : IntKind.i64.wrap (n / 10) = n / 10 := wrap64 (by omega) (by omega)
  have u2 : IntKind.i64.wrap (n % 10) = n % 10 := wrap64 (by omega) (by omega)
  have u3 : IntKind.i64.wrap (48 + n % 10) = 48 + n % 10 := wrap64 (by omega) (by omega)
  have u4 : IntKind.u8.wrap (48 + n % 10) = 48 + n % 10 := wrap8 (by omega) (by omega)
  iterate 6 (refine LQ.stepD rfl rfl (fun N hN => ?_); go_simp; apply Exists.intro; refine ⟨fun _ _ _ => ?_, hN _ _ ?_⟩; exact And.intro rfl rfl; clear hN N)
  refine LQ.stepD rfl rfl (fun N hN => ?_)
  go_simp
  apply Exists.intro
  refine ⟨fun _ _ _ => ?_, hN _ _ ?_⟩
  exact And.intro rfl (q _ _)
  clear hN N
  refine LQ.stepN rfl rfl (fun N hN => ?_)
  go_simp
  refine ⟨fun f p _ => alloc_b w p.d p.os 7 _ _ _ (by simp [grow]), ?_⟩
  rintro u wn ⟨b, rfl, hb⟩
  refine hN _ _ ?_
  clear hN N hb wn
  refine LQ.stepD rfl rfl (fun N hN => ?_)
  go_simp
  refine ⟨.string ⟨#[fig (n % 10)]⟩, fun f p hk => ?_, hN _ _ ?_⟩
  · obtain ⟨cx, ex, hx⟩ := (hk _ (List.mem_cons_self ..)).2
    cases ex
    have hc := hcv _ _ hx
    go_simp
    exact ⟨rfl, rfl⟩
  clear hN N
  have hlt : ¬ 9223372036854775807 < l.length + 1 := by omega
  iterate 1 (refine LQ.stepD rfl rfl (fun N hN => ?_); go_simp; apply Exists.intro; refine ⟨fun _ _ _ => ?_, hN _ _ ?_⟩; exact And.intro rfl rfl; clear hN N)
  refine LQ.lexEnd ?_
  rintro w4 ⟨p, rfl⟩ kn
  clear kn
  simp only [List.drop]
  go_wp2
  go_ret
  exact ⟨ret_str (cat l [fig (n % 10)]), below_regrown _ _ _⟩
theorem dec_any (n : Int) (w : World) (h0 : 0 ≤ n) (h1 : n ≤ 999) :
    Calls Try.prog 35 #[.int .i64 n] w fun e w' => e = .returned (.string ⟨(dec n).toArray⟩) ∧ Below w.heap.size w w' := by
  unfold dec
  by_cases a : n < 10
  · rw [if_pos a]
    exact dec_1 n w h0 (by omega)
  · rw [if_neg a]
    by_cases b : n < 100
    · rw [if_pos b]
      exact dec_more n w (by omega) (by omega) [fig (n / 10)] (by simp) fun w => dec_1 _ w (by omega) (by omega)
    · rw [if_neg b]
      have e1 : n / 10 / 10 = n / 100 := by omega
      exact dec_more n w (by omega) (by omega) [fig (n / 100), fig (n / 10 % 10)] (by simp) fun w => by
        have := dec_more (n / 10) w (by omega) (by omega) [fig (n / 10 / 10)] (by simp) fun w => dec_1 _ w (by omega) (by omega)
        rw [e1] at this
        exact this
end AW
end Go.Proofs.Ytfdkpcejjcifgau
