/-
  How large a tree is that came in: what the laws' szExpr and szExprS return.
-/
import Derived.Test.YtlkompbigpbefabExprOpen
import Derived.LoopTactic
import Derived.LoopN
import Derived.WalkKit
namespace Go.Proofs.Ytlkompbigpbefab
open Go.RowKit Go.Sort
set_option linter.unusedVariables false
set_option maxRecDepth 8000
namespace ER
open EM SK
def szR (c left : Int) : Int := if c ≤ left then left - c else -1
theorem szR_yes {c left : Int} (h : c ≤ left) : szR c left = left - c := if_pos h
theorem szR_no {c left : Int} (h : ¬ c ≤ left) : szR c left = -1 := if_neg h
/-- What lies below these nodes. -/
def deep : F → Int
  | .nil => 0
  | .cons _ _ _ s r => s.cnt + deep r
theorem deep_nn : ∀ t : F, 0 ≤ deep t
  | .nil => by simp [deep]
  | .cons _ _ _ s r => by have := s.cnt_nn; have := deep_nn r; simp only [deep]; omega
theorem cnt_deep : ∀ t : F, t.cnt = t.len + deep t
  | .nil => by simp [F.cnt, F.len, deep]
  | .cons _ _ _ s r => by have := cnt_deep r; simp only [F.cnt, F.len, deep]; omega
def PZ (t : F) : Prop := ∀ (v : Value) (left : Int) (w : World), Kids w t v → t.len ≤ maxLen → low t → 0 ≤ left → left ≤ 1048576 →
    Calls Try.prog 23 #[v, .int .i64 left] w fun e w' => e = .returned (.int .i64 (szR t.cnt left)) ∧ Below w.heap.size w w'
def AllZ : F → Prop
  | .nil => True
  | .cons _ _ _ t r => PZ t ∧ AllZ r
set_option maxHeartbeats 4000000 in
theorem sz_one (k a c : Int) (t : F) (v : Value) (left : Int) (w : World) (h : PZ t) (hk : Kids w t v) (hl : t.len ≤ maxLen) (hlo : low t) (l0 : 0 ≤ left) (l1 : left ≤ 1048576) :
    Calls Try.prog 13 #[exV k a c v, .int .i64 left] w fun e w' => e = .returned (.int .i64 (szR t.cnt left)) ∧ Below w.heap.size w w' := by
  obtain ⟨p, _, cap, rfl, rfl, hr⟩ := hk
  have hk : Kids w t (.slice p t.len cap) := ⟨p, _, cap, rfl, rfl, hr⟩
  clear hr
  have E := Ex.new w k a c (.slice p t.len cap) 33
  have B := below_new w (.cells #[.int .i64 k, .int .i64 a, .int .i64 c, .slice p t.len cap] 33)
  have K := h _ left _ (hk.kept B) hl hlo l0 l1
  obtain ⟨z, hz⟩ : ∃ z, z = szR t.cnt left := ⟨_, rfl⟩
  have z0 : -1 ≤ z := by rw [hz]; unfold szR; split <;> omega
  rw [← hz] at K
  rw [← hz]
  have zc : z < 0 → z = -1 := fun g => by rw [hz] at g ⊢; unfold szR at *; split at g <;> omega
  replace K := Hide.mk K
  clear hk hl hlo hz h
  go_enter Try.func13, Try.ntmps13
  have ⟨E0, E1, E2, E3⟩ := E
  go_wp2_with fail
  refine (K.out).mono ?_
  rintro e w1 ⟨rfl, Bx⟩
  clear E0 E1 E2 E3 E K
  replace B := below1 B Bx
  clear Bx
  by_cases g : z < 0
  · obtain rfl := zc g
    go_wp2
    go_ret
    exact ⟨rfl, B⟩
  · clear zc
    go_wp2
    go_ret
    exact ⟨rfl, B⟩
set_option maxHeartbeats 4000000 in
theorem sz_step (t : F) (h : AllZ t) : PZ t := by
  intro v left w hk hl hlo l0 l1
  obtain ⟨p, n, cap, rfl, hn, hr⟩ := hk
  have c0 := cnt_deep t
  have d0 := deep_nn t
  have ml : (maxLen : Int) = 9223372036854775807 := rfl
  by_cases hs : left - t.len < 0
  · rw [szR_no (by omega)]
    subst hn
    generalize t.len = n at *
    clear c0
    go_enter Try.func23, Try.ntmps23
    go_wp2
    go_ret
    exact ⟨rfl, Below.refl _ _⟩
  rcases hr with hr | ⟨b, o, rfl, R⟩
  · have : t = .nil := len0 hr
    subst this
    have e : szR F.nil.cnt left = left := by show szR 0 left = left; rw [szR_yes l0]; exact Int.sub_zero left
    rw [e]
    replace hn : n = 0 := hn
    subst hn
    clear e c0 d0 hl hs hlo h ml hr
    go_enter Try.func23, Try.ntmps23
    go_wp2_with fail
    refine wp_loop_rounds 1 ?_
    rw [rounds_succ]
    go_wp2
    go_ret
    first | exact ⟨rfl, Below.refl _ _⟩ | exact ⟨congrArg (fun x => Ending.returned (Value.int .i64 x)) (Int.sub_zero left), Below.refl _ _⟩
  subst hn
  obtain ⟨m, hm⟩ : ∃ m : Int, m = left - t.cnt := ⟨_, rfl⟩
  have hv : szR t.cnt left = szR 0 m := by unfold szR; split <;> split <;> omega
  rw [hv]
  have hm2 : left - t.len - deep t = m := by omega
  clear hv hm c0
  obtain ⟨n, hn⟩ : ∃ n, n = t.len := ⟨_, rfl⟩
  rw [← hn] at hl hs hm2 ⊢
  replace hm2 := Hide.mk hm2
  replace hn := Hide.mk hn
  go_enter Try.func23, Try.ntmps23
  go_wp2_with fail
  go_loopw [1, 5] (fun s1 s5 wr => ∃ (L : Int) (i : Nat) (r : F), s1 = .int .i64 L ∧ s5 = .int .i64 i ∧ 0 ≤ L ∧ L ≤ 1048576 ∧ Hide (i + r.len = n) ∧ Hide (L - deep r = m) ∧ Hide (Row wr r b (o + i * 4)) ∧ Hide (AllZ r) ∧ Hide (low r) ∧ Below w.heap.size w wr)
    (fun _ s5 _ => match s5 with | .int _ i => (n - i.toNat) | _ => 0)
  case atStart => exact ⟨left - n, 0, t, rfl, rfl, by omega, by omega, ⟨by rw [hn.out]; omega⟩, hm2, ⟨by rw [show o + 0 * 4 = o by omega]; exact R⟩, ⟨h⟩, ⟨hlo⟩, Below.refl _ _⟩
  case round =>
    obtain ⟨L, i, r, rfl, rfl, L0, L1, hi, hm, hR, hA, hlw, B⟩ := hrel
    rcases r with _ | ⟨k, a, c, s, r⟩
    · have hi' : (i : Int) = n := by have := hi.out; simp only [F.len] at this; omega
      have e : szR 0 m = L := by rw [szR_yes (by have := hm.out; simp only [deep] at this; omega)]; have := hm.out; simp only [deep] at this; omega
      replace e := Hide.mk e
      go_wp2
      go_ret
      exact ⟨by rw [e.out]; rfl, B⟩
    · have hi' : (i : Int) < n := by have := hi.out; simp only [F.len] at this; omega
      have S := hR.out
      obtain ⟨⟨q0, q1, q2⟩, ⟨p1, n1, c1, q3, hn1, hr1⟩, R'⟩ := S
      subst hn1
      have K := sz_one k a c s (.slice p1 s.len c1) L wr hA.out.1 ⟨p1, _, c1, rfl, rfl, hr1⟩ hlw.out.1.1 hlw.out.1.2 L0 L1
      obtain ⟨z, hz⟩ : ∃ z, z = szR s.cnt L := ⟨_, rfl⟩
      have z0 : -1 ≤ z ∧ z ≤ 1048576 := by have := s.cnt_nn; rw [hz]; unfold szR; split <;> omega
      rw [← hz] at K
      have zn : z < 0 → szR 0 m = -1 := fun g => by
        have := hm.out
        simp only [deep] at this
        have := deep_nn r
        rw [hz] at g
        unfold szR at g
        split at g
        · omega
        · exact szR_no (by omega)
      have zy : 0 ≤ z → z - deep r = m := fun g => by
        have := hm.out
        simp only [deep] at this
        rw [hz] at g ⊢
        unfold szR at *
        split at g
        · rename_i h1
          rw [if_pos h1]
          omega
        · omega
      replace K := Hide.mk K
      replace R' := Hide.mk R'
      replace zn := Hide.mk zn
      replace zy := Hide.mk zy
      clear hz hr1 hR
      go_wp2_with fail
      refine (K.out).mono ?_
      rintro e w1 ⟨rfl, Bx⟩
      clear K q0 q1 q2 q3
      have B1 := SK.below1 B Bx
      have R1 := Hide.mk (Row.kept Bx R'.out)
      clear B Bx R'
      by_cases g : z < 0
      · replace zn := Hide.mk (zn.out g)
        go_wp2
        go_ret
        exact ⟨by rw [zn.out]; rfl, B1⟩
      · replace zy := Hide.mk (zy.out (by omega))
        go_wp2
        go_roundw
        case rel => exact ⟨z, i + 1, r, rfl, by rw [show ((i + 1 : Nat) : Int) = (i : Int) + 1 by omega], by omega, z0.2, ⟨by have := hi.out; simp only [F.len] at this; omega⟩, ⟨zy.out⟩, ⟨by rw [show o + (i + 1) * 4 = o + i * 4 + 4 by omega]; exact R1.out⟩, ⟨hA.out.2⟩, ⟨hlw.out.2⟩, B1⟩
        case measure => simp; omega
theorem sz_all : ∀ t : F, PZ t ∧ AllZ t
  | .nil => ⟨sz_step .nil trivial, trivial⟩
  | .cons k a b t r => by
    have g : AllZ (.cons k a b t r) := ⟨(sz_all t).1, (sz_all r).2⟩
    exact ⟨sz_step _ g, g⟩
theorem szExpr_any (k a c : Int) (t : F) (v : Value) (left : Int) (w : World) (hk : Kids w t v) (hl : t.len ≤ maxLen) (hlo : low t) (l0 : 0 ≤ left) (l1 : left ≤ 1048576) :
    Calls Try.prog 13 #[exV k a c v, .int .i64 left] w fun e w' => e = .returned (.int .i64 (szR t.cnt left)) ∧ Below w.heap.size w w' :=
  sz_one k a c t v left w (sz_all t).1 hk hl hlo l0 l1
end ER
end Go.Proofs.Ytlkompbigpbefab
