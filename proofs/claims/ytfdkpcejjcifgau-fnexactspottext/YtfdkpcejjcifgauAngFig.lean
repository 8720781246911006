/-
  Figures of a number as runes, by the program: what its figures answers, and what the library's Reverse does to at most three runes.
-/
import Derived.Test.YtfdkpcejjcifgauRows
import Derived.Test.YtfdkpcejjcifgauLooseMath
import Derived.Test.YtfdkpcejjcifgauAngTurns
import Derived.Test.YtfdkpcejjcifgauTextWalks
import Derived.Laws.AppendOwn
import Derived.Lib.SmallJoins
import Derived.WalkKit
import Derived.Below
import Derived.LoopN
import Derived.LoopTactic
namespace Go.Proofs.Ytfdkpcejjcifgau
open Go.RowKit Go.Joins
set_option linter.unusedVariables false
namespace AW
open AM AT
abbrev rv (b : UInt8) : Value := .int .i32 (b.toNat : Int)
theorem rev1 (w : World) (g cap : Nat) :
    Calls Try.prog 50 #[.slice (some ⟨g, 0, none⟩) 1 cap] w fun e w' => e = .returned (.tuple #[]) ∧ w' = w := by
  go_enter Try.func50, Try.ntmps50
  go_wp2_with fail
  refine wp_loop_rounds 1 ?_
  rw [rounds_succ]
  go_wp2
  go_end0
  exact ⟨rfl, rfl⟩
theorem rev2 (w : World) (g cap : Nat) (x y : Int) (c0 : w.cell? ⟨g, 0, none⟩ = some (.int .i32 x)) (c1 : w.cell? ⟨g, 1, none⟩ = some (.int .i32 y)) (f0 : w.frozen? ⟨g, 0, none⟩ = false) (f1 : w.frozen? ⟨g, 1, none⟩ = false) :
    Calls Try.prog 50 #[.slice (some ⟨g, 0, none⟩) 2 cap] w fun e w' => e = .returned (.tuple #[]) ∧ w' = ((w.setCell ⟨g, 0, none⟩ (.int .i32 y)).setCell ⟨g, 1, none⟩ (.int .i32 x)).drew := by
  go_enter Try.func50, Try.ntmps50
  go_wp2_with fail
  refine wp_loop_rounds 2 ?_
  rw [rounds_succ]
  go_wp2_with fail
  go_region
  go_wp2_with fail
  rw [rounds_succ]
  go_wp2
  go_end0
  exact ⟨rfl, rfl⟩
theorem rev3 (w : World) (g cap : Nat) (x y : Int) (c0 : w.cell? ⟨g, 0, none⟩ = some (.int .i32 x)) (c1 : w.cell? ⟨g, 2, none⟩ = some (.int .i32 y)) (f0 : w.frozen? ⟨g, 0, none⟩ = false) (f1 : w.frozen? ⟨g, 2, none⟩ = false) :
    Calls Try.prog 50 #[.slice (some ⟨g, 0, none⟩) 3 cap] w fun e w' => e = .returned (.tuple #[]) ∧ w' = ((w.setCell ⟨g, 0, none⟩ (.int .i32 y)).setCell ⟨g, 2, none⟩ (.int .i32 x)).drew := by
  go_enter Try.func50, Try.ntmps50
  go_wp2_with fail
  refine wp_loop_rounds 2 ?_
  rw [rounds_succ]
  go_wp2_with fail
  go_region
  go_wp2_with fail
  rw [rounds_succ]
  go_wp2
  go_end0
  exact ⟨rfl, rfl⟩
theorem rev_any (w : World) (base : Nat) (v : Value) (l : List UInt8) (h1 : 1 ≤ l.length) (h3 : l.length ≤ 3) (h : w.ownsRow base 21 1 v l.length (l.map rv)) :
    Calls Try.prog 50 #[v] w fun e w' => e = .returned (.tuple #[]) ∧ w'.ownsRow base 21 1 v l.length (l.reverse.map rv) ∧ Below base w w' := by
  obtain ⟨hl, ⟨_, h0⟩ | ⟨g, cap, ⟨cur⟩, rfl, hb, hg, hn, hm, hs, ht⟩⟩ := h
  · omega
  · have fz : ∀ o, w.frozen? ⟨g, o, none⟩ = false := fun o => unfrozen_of_block hg o
    have ce : ∀ o, w.cell? ⟨g, o, none⟩ = cur[o]? := fun o => by rw [cell_of_block hg]; simp
    match l, h1, h3 with
    | [a], _, _ =>
      refine (rev1 w g cap).mono ?_
      rintro e w' ⟨rfl, rfl⟩
      exact ⟨rfl, ⟨by simp, .inr ⟨g, cap, ⟨cur⟩, rfl, hb, hg, hn, hm, hs, ht⟩⟩, Below.refl _ _⟩
    | [a, b], _, _ =>
      match cur, ht with
      | x :: y :: r, ht =>
        simp at ht
        obtain ⟨rfl, rfl⟩ := ht
        refine (rev2 w g cap _ _ (ce 0) (ce 1) (fz 0) (fz 1)).mono ?_
        rintro e w' ⟨rfl, rfl⟩
        refine ⟨rfl, ⟨by simp, .inr ⟨g, cap, ⟨rv b :: rv a :: r⟩, rfl, hb, ?_, hn, hm, by simpa using hs, by simp⟩⟩, ((Below.refl _ _).setCell hb _ |>.setCell hb _).drew⟩
        have := block_setCell (i := 1) (block_setCell (i := 0) hg (rv b)) (rv a)
        simp at this
        exact this
    | [a, b, c], _, _ =>
      match cur, ht with
      | x :: y :: z :: r, ht =>
        simp at ht
        obtain ⟨rfl, rfl, rfl⟩ := ht
        refine (rev3 w g cap _ _ (ce 0) (ce 2) (fz 0) (fz 2)).mono ?_
        rintro e w' ⟨rfl, rfl⟩
        refine ⟨rfl, ⟨by simp, .inr ⟨g, cap, ⟨rv c :: rv b :: rv a :: r⟩, rfl, hb, ?_, hn, hm, by simpa using hs, by simp⟩⟩, ((Below.refl _ _).setCell hb _ |>.setCell hb _).drew⟩
        have := block_setCell (i := 2) (block_setCell (i := 0) hg (rv c)) (rv a)
        simp at this
        exact this
/-- How many rounds are left for a number. -/
def Lim (m : Int) (j : Nat) : Prop := j = 0 ∧ m < 1000 ∨ j = 1 ∧ m < 100 ∨ j = 2 ∧ m < 10 ∨ j = 3 ∧ m < 1
theorem own_form {w : World} {base n : Nat} {e : TypeId} {v : Value} {xs : List Value} (h : w.ownsRow base e 1 v n xs) : ∃ a cap, v = .slice a n cap := by
  rcases h.2 with ⟨rfl, rfl⟩ | ⟨g, cap, cur, rfl, _⟩
  · exact ⟨_, _, rfl⟩
  · exact ⟨_, _, rfl⟩
theorem own_kept {w w' : World} {base n : Nat} {e : TypeId} {v : Value} {xs : List Value} (h : w.ownsRow base e 1 v n xs) (B : Below w.heap.size w w') : w'.ownsRow base e 1 v n xs := by
  obtain ⟨h1, h2 | ⟨g, cap, cur, rfl, hb, hg, r⟩⟩ := h
  · exact ⟨h1, .inl h2⟩
  · exact ⟨h1, .inr ⟨g, cap, cur, rfl, hb, (B.block g (by have := (Array.getElem?_eq_some_iff.1 hg).1; exact this)).trans hg, r⟩⟩
theorem infoR : (Try.prog.info? 21).map (fun i => (i.zero, i.size, i.bytes)) = some (some (.int .i32 0), 1, 4) := by kernel_rfl
/-- A row of runes more behind an own row. -/
theorem wpApp {w : World} {ops : Array Oper} {rest : List Oper} {o : Oper} {a : Act} {Q : Exit → Act → World → Prop} (hgd : o.guard = none) (s x : Operand)
    (ho : o.op = .call { callee := .builtin .append, args := #[s, x], argTypes := #[56, 56] }) (base : Nat) (v : Value) (l m : List UInt8) (hs : a.eval s = v) (h : w.ownsRow base 21 1 v l.length (l.map rv))
    (ad : Addr) (k c : Nat) (hx : a.eval x = .slice (some ad) k c) (hk : k = m.length) (hc : ∀ j u, (m.map rv)[j]? = some u → w.cell? (ad.add j) = some u) (hn : l.length + m.length ≤ 1000) (hbase : base ≤ w.heap.size)
    (K : ∀ v' w', w'.ownsRow base 21 1 v' (l ++ m).length ((l ++ m).map rv) → w.grownBy w' v.ownBlock → wpList Try.prog ops Q rest (a.put o.dst v') w') : wpList Try.prog ops Q (o :: rest) a w := by
  obtain ⟨i0, hi, hz0, hz1, hz2⟩ := info_parts infoR
  subst hk
  refine wpList_append_own w hgd s x 56 ho base 21 i0 (.int .i32 0) 1 4 Try.underlying56 hi hz0 hz1 hz2 rfl (by decide) v l.length (l.map rv) hs h ad m.length c (m.map rv) hx (by simp) hc (by intro u hu; simp at hu; obtain ⟨b, _, rfl⟩ := hu; rfl) (by unfold maxLen; omega) (by omega) hbase ?_
  intro v' w' ho' hg _
  exact K v' w' (by simpa using ho') hg
theorem one_new (w : World) (b : UInt8) (z : Int) (hz : z = (b.toNat : Int)) : ∀ j u, ([b].map rv)[j]? = some u → (w.alloc (.cells #[.int .i32 z] 21)).cell? ((⟨w.heap.size, 0, none⟩ : Addr).add j) = some u := by
  intro j u hj
  match j, hj with
  | 0, hj =>
    simp at hj
    subst hj
    simp [go_sem, hz]
theorem app_below {w0 w w' : World} {base n : Nat} {e : TypeId} {v : Value} {xs : List Value} (B : Below base w0 w) (hbase : base ≤ w.heap.size) (h : w.ownsRow base e 1 v n xs) (hg : w.grownBy w' v.ownBlock) : Below base w0 w' :=
  B.grown hg hbase fun k hk => (h.lt k hk).1
theorem lim_next {m : Int} {j : Nat} (h : Lim m j) (h0 : 0 ≤ m) (hj : j < 3) : Lim (m / 10) (j + 1) := by unfold Lim at *; omega
theorem lim_le {m : Int} {j : Nat} (h : Lim m j) : j ≤ 3 := by unfold Lim at h; omega
theorem lim_hi {m : Int} {j : Nat} (h : Lim m j) : m ≤ 999 := by unfold Lim at h; omega
theorem lim_end {m : Int} {j : Nat} (h : Lim m j) (hm : 0 < m) : j < 3 := by unfold Lim at h; omega
/-- One round: a figure more. -/
theorem dig_step {m : Int} {xs R : List UInt8} {k : Nat} (hj : xs.length < 3) (h : 0 < m ∨ xs.length < k) (e : dig (3 - xs.length) m (k - xs.length) ++ xs.reverse = R) : dig (3 - (xs ++ [fig (m % 10)]).length) (m / 10) (k - (xs ++ [fig (m % 10)]).length) ++ (xs ++ [fig (m % 10)]).reverse = R := by
  obtain ⟨f, hf⟩ : ∃ f, 3 - xs.length = f + 1 := ⟨2 - xs.length, by omega⟩
  rw [hf, dig_on (by omega)] at e
  rw [← e]
  have e1 : 3 - (xs ++ [fig (m % 10)]).length = f := by simp; omega
  have e2 : k - (xs ++ [fig (m % 10)]).length = k - xs.length - 1 := by simp; omega
  rw [e1, e2]
  simp
def lenOf : Value → Nat
  | .slice _ n _ => n
  | _ => 0
theorem own_len {w : World} {base n : Nat} {e : TypeId} {v : Value} {xs : List Value} (h : w.ownsRow base e 1 v n xs) : lenOf v = n ∧ ∀ w : World, (Builtin.len_ #[56] 3 #[v]).run Try.prog w = .ok (.int .i64 n) w := by
  obtain ⟨a, cap, rfl⟩ := own_form h
  exact ⟨rfl, fun w => by simp [go_sem, Try.underlying56, goInt]⟩
theorem figures_any (n : Int) (k : Nat) (w : World) (h0 : 0 ≤ n) (h1 : n ≤ 999) (k1 : 1 ≤ k) (k3 : k ≤ 3) :
    Calls Try.prog 39 #[.int .i64 n, .int .i64 k] w fun e w' => ∃ v, e = .returned v ∧ w'.ownsRow w.heap.size 21 1 v (dig 3 n k).length ((dig 3 n k).map rv) ∧ Below w.heap.size w w' := by
  have R0 : ∃ R, dig 3 n k = R := ⟨_, rfl⟩
  obtain ⟨R, hR⟩ := R0
  rw [hR]
  have HR := Hide.mk hR
  clear hR
  go_enter Try.func39, Try.ntmps39
  go_wp2_with fail
  go_loopw [0, 5] (fun s0 s5 w' => ∃ (m : Int) (xs : List UInt8), s0 = .int .i64 m ∧ 0 ≤ m ∧ Lim m xs.length ∧ w'.ownsRow w.heap.size 21 1 s5 xs.length (xs.map rv) ∧ Below w.heap.size w w' ∧ dig (3 - xs.length) m (k - xs.length) ++ xs.reverse = R)
    (fun _ s5 _ => 3 - lenOf s5)
  case atStart => exact ⟨n, [], rfl, h0, by unfold Lim; simp; omega, World.ownsRow_nil _ _ _ _, Below.refl _ _, by simpa using HR.out⟩
  case round =>
    obtain ⟨m, xs, rfl, m0, hL, hO, B, hD⟩ := hrel
    obtain ⟨hlv, hln⟩ := own_len hO
    have HD := Hide.mk hD
    have HL := Hide.mk hL
    have HO := Hide.mk hO
    have HV := Hide.mk hlv
    have lj := lim_le hL
    have mh := lim_hi hL
    have hsz := B.size
    clear hD hL hO hlv
    by_cases c : 0 < m
    · have hj : xs.length < 3 := lim_end HL.out c
      have f9 : 48 + m % 10 = ((fig (m % 10)).toNat : Int) := (fig_nat (n := m % 10) (by omega) (by omega)).symm
      have F9 := Hide.mk f9
      clear f9
      have G1 := Hide.mk (own_kept HO.out (below_new wr (.cells #[.int .i32 (48 + m % 10)] 21)))
      have G2 : xs.length + [fig (m % 10)].length ≤ 1000 := by simp; omega
      have G3 : Hide (w.heap.size ≤ (wr.alloc (.cells #[.int .i32 (48 + m % 10)] 21)).heap.size) := ⟨by simp; omega⟩
      go_wp2_with (first
        | (at_builtin; (refine wpApp rfl _ _ rfl w.heap.size u5 xs [fig (m % 10)] rfl G1.out ⟨wr.heap.size, 0, none⟩ 1 1 rfl rfl (one_new wr _ _ F9.out) G2 G3.out ?_); intro v2 w2 hO2 hg2
           have HN := Hide.mk (dig_step hj (Or.inl c) HD.out)
           have HM := Hide.mk (lim_next HL.out m0 hj)
           have B2 := Hide.mk (app_below (B.alloc hsz _) (by simp; omega) (own_kept HO.out (below_new _ _)) hg2)
           have HO2 := Hide.mk hO2
           have HV2 := Hide.mk (own_len hO2).1
           clear hO2 hg2)
        | go_in)
      go_roundw
      case measure => show 3 - lenOf v2 < 3 - lenOf u5; rw [HV2.out, HV.out]; simp; omega
      case rel => exact ⟨_, xs ++ [fig (m % 10)], rfl, by omega, by simpa using HM.out, HO2.out, B2.out, HN.out⟩
    · have C0 := Hide.mk (show m = 0 by omega)
      by_cases c2 : (xs.length : Int) < k
      · have hj : xs.length < 3 := by omega
        have f9 : 48 + m % 10 = ((fig (m % 10)).toNat : Int) := (fig_nat (n := m % 10) (by omega) (by omega)).symm
        have F9 := Hide.mk f9
        clear f9
        have G1 := Hide.mk (own_kept HO.out (below_new wr (.cells #[.int .i32 (48 + m % 10)] 21)))
        have G2 : xs.length + [fig (m % 10)].length ≤ 1000 := by simp; omega
        have G3 : Hide (w.heap.size ≤ (wr.alloc (.cells #[.int .i32 (48 + m % 10)] 21)).heap.size) := ⟨by simp; omega⟩
        go_wp2_with (first
          | (at_builtin; (refine wpApp rfl _ _ rfl w.heap.size u5 xs [fig (m % 10)] rfl G1.out ⟨wr.heap.size, 0, none⟩ 1 1 rfl rfl (one_new wr _ _ F9.out) G2 G3.out ?_); intro v2 w2 hO2 hg2
             have HN := Hide.mk (dig_step hj (Or.inr (by omega)) HD.out)
             have HM := Hide.mk (lim_next HL.out m0 hj)
             have B2 := Hide.mk (app_below (B.alloc hsz _) (by simp; omega) (own_kept HO.out (below_new _ _)) hg2)
             have HO2 := Hide.mk hO2
             have HV2 := Hide.mk (own_len hO2).1
             clear hO2 hg2)
          | go_in)
        go_roundw
        case measure => show 3 - lenOf v2 < 3 - lenOf u5; rw [HV2.out, HV.out]; simp; omega
        case rel => exact ⟨_, xs ++ [fig (m % 10)], rfl, by omega, by simpa using HM.out, HO2.out, B2.out, HN.out⟩
      · have e2 : xs.reverse = R := by have := HD.out; rwa [dig_off (by omega), List.nil_append] at this
        have l1 : 1 ≤ xs.length := by omega
        have l2 : R.length = xs.length := by rw [← e2]; simp
        have E2 := Hide.mk e2
        clear e2
        go_wp2_with fail
        refine (rev_any wr w.heap.size u5 xs l1 lj HO.out).mono ?_
        rintro e w2 ⟨rfl, hO2, B2⟩
        rw [E2.out, ← l2] at hO2
        have HO2 := Hide.mk hO2
        clear hO2 HO
        go_wp2
        go_ret
        exact ⟨_, rfl, HO2.out, B.trans B2⟩
end AW
end Go.Proofs.Ytfdkpcejjcifgau
