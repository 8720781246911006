/-
  For every code of bytes the law of ExprOk returns true: what is drawn is ok just if the specification says so, and then its Kids are ok.
-/
import Derived.Test.YtlkompbigpbefabRows
import Derived.WalkKit
import Derived.ProofKit
import Derived.OpenShut
import Derived.Test.YtlkompbigpbefabDrawExpr8
import Derived.Test.YtlkompbigpbefabExprImpl
import Derived.ShutString
import Derived.ChangeOld
import Derived.Below
namespace Go.Proofs.Ytlkompbigpbefab.fnExprOk
open Go.ChangeShapes Go.WideShapes Go.ChangeAt Go.RowKit
open Go.ChangeMaps (open_string shut_string)
set_option linter.unusedVariables false

theorem own : ownKnob Try.prog.godebug = none := by kernel_rfl
theorem laidOut : laidOutB Try.prog = true := by kernel_rfl

/-- WHAT THE WALK IS TOLD OF A SLICE OF INTEGERS THAT CAME IN: it is nil; or it leads to a row of 'cap' cells, the numbers 'zs' (the first 'len' are its elements, the rest its spare room), each fitting its kind. -/
def IsRow (k : IntKind) (w : World) (a : Option Addr) (len cap : Nat) (zs : List Int) : Prop :=
  (a = none ∧ len = 0 ∧ cap = 0 ∧ zs = []) ∨
  ∃ x, a = some x ∧ len ≤ cap ∧ cap ≤ maxLen ∧ zs.length = cap ∧ (∀ i, i < zs.length → w.cell? (x.add i) = some (.int k (zs.getD i 0))) ∧ ∀ n ∈ zs, (Lit.int k n).wf = true

theorem add_none (b off i : Nat) : (⟨b, off, none⟩ : Addr).add i = ⟨b, off + i, none⟩ := by
  unfold Addr.add
  split
  · rename_i h
    subst h
    rfl
  · rfl
theorem src {w : World} {a : Option Addr} {len cap : Nat} {zs : List Int} (h : IsRow .u8 w a len cap zs) : DK.Src w a len cap := by
  rcases h with ⟨rfl, rfl, rfl, rfl⟩ | ⟨x, rfl, hl, hm, hz, hcell, hwz⟩
  · exact ⟨by omega, by omega, .inl rfl⟩
  · unfold maxLen at hm
    refine ⟨hl, by omega, ?_⟩
    by_cases h0 : len = 0
    · exact .inl h0
    · obtain ⟨b, off, spot⟩ := x
      have hc := hcell 0 (by omega)
      have hspot : spot = none := by simpa [Addr.add] using World.cell?_spot hc
      subst hspot
      refine .inr ⟨b, off, rfl, fun i hi => ?_⟩
      have hi2 : i < zs.length := by omega
      have hb := bounds_u8 (hwz (zs.getD i 0) (by simp [List.getD, hi2]))
      have hci := hcell i hi2
      rw [add_none] at hci
      exact ⟨zs.getD i 0, hb.1, hb.2, hci⟩

open EM SK ER in
theorem ok_one {kk a c k1 a1 c1 : Int} {t1 r : F} (h : okB kk a c (.cons k1 a1 c1 t1 r) = true) : okB k1 a1 c1 t1 = true := by
  have n1 := t1.cnt_nn
  have n2 := r.cnt_nn
  unfold okB at *
  have e1 : (F.cons k1 a1 c1 t1 r).okF = (formB k1 a1 c1 t1.len && (t1.okF && r.okF)) := rfl
  have e2 : (F.cons k1 a1 c1 t1 r).cnt = 1 + t1.cnt + r.cnt := rfl
  rw [e1, e2] at h
  simp only [Bool.and_eq_true, decide_eq_true_eq] at h ⊢
  exact ⟨h.2.1.1, h.2.1.2.1, by omega⟩
open EM SK ER in
theorem ok_two {kk a c k1 a1 c1 k2 a2 c2 : Int} {t1 t2 r : F} (h : okB kk a c (.cons k1 a1 c1 t1 (.cons k2 a2 c2 t2 r)) = true) : okB k2 a2 c2 t2 = true := by
  have n1 := t1.cnt_nn
  have n2 := t2.cnt_nn
  have n3 := r.cnt_nn
  unfold okB at *
  have e1 : (F.cons k1 a1 c1 t1 (.cons k2 a2 c2 t2 r)).okF = (formB k1 a1 c1 t1.len && (t1.okF && (formB k2 a2 c2 t2.len && (t2.okF && r.okF)))) := rfl
  have e2 : (F.cons k1 a1 c1 t1 (.cons k2 a2 c2 t2 r)).cnt = 1 + t1.cnt + (1 + t2.cnt + r.cnt) := rfl
  rw [e1, e2] at h
  simp only [Bool.and_eq_true, decide_eq_true_eq] at h ⊢
  exact ⟨h.2.1.2.2.1, h.2.1.2.2.2.1, by omega⟩
open EM SK ER in
theorem ok_len {kk a c : Int} {t : F} (h : okB kk a c t = true) : t.len ≤ 2 := by
  unfold okB at h
  simp only [Bool.and_eq_true] at h
  rcases form_kinds h.1 with g | g | g | g <;> omega
open EM SK ER Go.Sort
set_option maxHeartbeats 8000000 in

theorem walk (a0 : Option Addr) (len0 cap0 : Nat) (z0 : List Int) (w : World) (w0 : IsRow .u8 w a0 len0 cap0 z0) :
    Calls Try.prog 4 #[.slice a0 len0 cap0] w fun e w' => e = .returned (.bool true) ∧ Below w.heap.size w w' := by
  by_cases hl : (len0 : Int) ≤ 1048576
  · go_enter Try.func4, Try.ntmps4
    go_wp2_with fail
    refine (DX.drawExprOk_any _ _ _ _ (src w0)).mono ?_
    rintro e v1 ⟨kk, a, c, t, u, rfl, K, B⟩
    replace K := K.kids
    obtain ⟨pu, n, cu, rfl, hn, hr⟩ := K
    have K : Hide (ER.Kids v1 t (.slice pu n cu)) := ⟨pu, _, cu, rfl, hn, hr⟩
    replace hn := Hide.mk hn
    clear hr
    have E := Ex.new v1 kk a c (.slice pu n cu) 25
    have Bn := below_new v1 (.cells #[.int .i64 kk, .int .i64 a, .int .i64 c, .slice pu n cu] 25)
    replace K := Hide.mk (K.out.kept Bn)
    replace B := below1 B Bn
    have I := Hide.mk (iExprOk_any kk a c t (.slice pu n cu) _ K.out)
    clear Bn
    have ⟨E0, E1, E2, E3⟩ := E
    go_wp2_with fail
    clear E0 E1 E2 E3
    generalize (v1.alloc (.cells #[.int .i64 kk, .int .i64 a, .int .i64 c, .slice pu n cu] 25)) = v2 at *
    refine (I.out).mono ?_
    clear I
    rintro e v3 ⟨rfl, Bx⟩
    replace E := E.kept Bx
    replace K := Hide.mk (K.out.kept Bx)
    replace B := below1 B Bx
    clear Bx
    have J := fun w h => sExprOk_any kk a c t (.slice pu n cu) w h
    cases hok : okB kk a c t
    · rw [hok] at J
      replace J := Hide.mk J
      clear hok
      have ⟨E0, E1, E2, E3⟩ := E
      go_wp2_with fail
      clear E0 E1 E2 E3
      refine (J.out _ K.out).mono ?_
      rintro e v4 ⟨rfl, Bx⟩
      replace E := E.kept Bx
      replace K := Hide.mk (K.out.kept Bx)
      replace B := below1 B Bx
      clear Bx
      have ⟨E0, E1, E2, E3⟩ := E
      go_wp2_with fail
      clear E0 E1 E2 E3
      refine (J.out _ K.out).mono ?_
      rintro e v5 ⟨rfl, Bx⟩
      replace B := below1 B Bx
      clear Bx
      go_wp2
      go_ret
      exact ⟨rfl, B⟩
    · have h2 := ok_len hok
      rw [hok] at J
      replace J := Hide.mk J
      replace hok := Hide.mk hok
      have ⟨E0, E1, E2, E3⟩ := E
      go_wp2_with fail
      clear E0 E1 E2 E3
      refine (J.out _ K.out).mono ?_
      rintro e v4 ⟨rfl, Bx⟩
      replace E := E.kept Bx
      replace K := Hide.mk (K.out.kept Bx)
      replace B := below1 B Bx
      clear Bx J
      have ⟨E0, E1, E2, E3⟩ := E
      go_wp2_with fail
      clear E0 E1 E2 E3
      rcases (show t.len = 0 ∨ t.len = 1 ∨ t.len = 2 by omega) with g | g | g
      · have hn' : n = 0 := hn.out.trans g
        clear hn g h2
        subst hn'
        refine wp_loop_rounds 1 ?_
        rw [rounds_succ]
        have ⟨E0, E1, E2, E3⟩ := E
        go_wp2
        go_ret
        exact ⟨rfl, B⟩
      · obtain ⟨k1, a1, b1, t1, rfl⟩ := len1 g
        have o1 := Hide.mk (ok_one hok.out)
        have hn' : n = 1 := hn.out.trans g
        clear hn g h2
        subst hn'
        obtain ⟨p', n', cap', e', h5, h6⟩ := K.out
        cases e'
        rcases h6 with h6 | ⟨x, o, rfl, R⟩
        · cases h6
        clear h5
        replace R := Hide.mk R
        refine wp_loop_rounds 2 ?_
        rw [rounds_succ]
        obtain ⟨⟨q0, q1, q2⟩, ⟨p1, n1, c1, q3, hn1, hr1⟩, _⟩ := R.out
        subst hn1
        have I := iExprOk_any k1 a1 b1 t1 (.slice p1 t1.len c1) v4 ⟨p1, _, c1, rfl, rfl, hr1⟩
        rw [o1.out] at I
        replace I := Hide.mk I
        clear hr1
        have ⟨E0, E1, E2, E3⟩ := E
        go_wp2_with fail
        clear E0 E1 E2 E3 q0 q1 q2 q3
        refine (I.out).mono ?_
        clear I
        rintro e v5 ⟨rfl, Bx⟩
        replace E := E.kept Bx
        replace R := Hide.mk (R.out.kept Bx)
        replace B := below1 B Bx
        clear Bx
        have ⟨E0, E1, E2, E3⟩ := E
        go_wp2_with fail
        clear E0 E1 E2 E3
        rw [rounds_succ]
        have ⟨E0, E1, E2, E3⟩ := E
        go_wp2
        go_ret
        exact ⟨rfl, B⟩
      · obtain ⟨k1, a1, b1, t1, k2, a2, b2, t2, rfl⟩ := len2 g
        have o1 := Hide.mk (ok_one hok.out)
        have o2 := Hide.mk (ok_two hok.out)
        have hn' : n = 2 := hn.out.trans g
        clear hn g h2
        subst hn'
        obtain ⟨p', n', cap', e', h5, h6⟩ := K.out
        cases e'
        rcases h6 with h6 | ⟨x, o, rfl, R⟩
        · cases h6
        clear h5
        replace R := Hide.mk R
        refine wp_loop_rounds 3 ?_
        rw [rounds_succ]
        obtain ⟨⟨q0, q1, q2⟩, ⟨p1, n1, c1, q3, hn1, hr1⟩, _⟩ := R.out
        subst hn1
        have I := iExprOk_any k1 a1 b1 t1 (.slice p1 t1.len c1) v4 ⟨p1, _, c1, rfl, rfl, hr1⟩
        rw [o1.out] at I
        replace I := Hide.mk I
        clear hr1
        have ⟨E0, E1, E2, E3⟩ := E
        go_wp2_with fail
        clear E0 E1 E2 E3 q0 q1 q2 q3
        refine (I.out).mono ?_
        clear I
        rintro e v5 ⟨rfl, Bx⟩
        replace E := E.kept Bx
        replace R := Hide.mk (R.out.kept Bx)
        replace B := below1 B Bx
        clear Bx
        have ⟨E0, E1, E2, E3⟩ := E
        go_wp2_with fail
        clear E0 E1 E2 E3
        rw [rounds_succ]
        obtain ⟨_, _, ⟨q0, q1, q2⟩, ⟨p1, n1, c1, q3, hn1, hr1⟩, _⟩ := R.out
        subst hn1
        have I := iExprOk_any k2 a2 b2 t2 (.slice p1 t2.len c1) v5 ⟨p1, _, c1, rfl, rfl, hr1⟩
        rw [o2.out] at I
        replace I := Hide.mk I
        clear hr1
        have ⟨E0, E1, E2, E3⟩ := E
        go_wp2_with fail
        clear E0 E1 E2 E3 q0 q1 q2 q3
        refine (I.out).mono ?_
        clear I
        rintro e v6 ⟨rfl, Bx⟩
        replace E := E.kept Bx
        replace R := Hide.mk (R.out.kept Bx)
        replace B := below1 B Bx
        clear Bx
        have ⟨E0, E1, E2, E3⟩ := E
        go_wp2_with fail
        clear E0 E1 E2 E3
        rw [rounds_succ]
        have ⟨E0, E1, E2, E3⟩ := E
        go_wp2
        go_ret
        exact ⟨rfl, B⟩
  · go_enter Try.func4, Try.ntmps4
    go_wp2
    go_ret
    exact ⟨rfl, Below.refl _ _⟩

set_option maxRecDepth 100000 in
theorem lifted (os : Os) (started : os.Started) (H : Type) (enc : TypeId × Value → H) :
    ReturnsInHanded {} Try.checked os 4 .any (Rows.fnExprOkSpec.pre6 enc Try.prog Try.f4 Rows.fnExprOkRow.domain false) (Rows.fnExprOkSpec.post enc Try.prog Try.f4 false true false false) := by
  refine returnsInHanded_of_change (C := Try.checked) own started (by kernel_rfl) Try.func4
    (ChangeSpec.witness6 (enc := enc) (C := Try.checked) false ⟨#[], #[.slice none 0 0], []⟩ 8 (by kernel_rfl) (by kernel_rfl) (by kernel_rfl) (by kernel_rfl)) ?_
  intro W base args ds gs before hval0 hW hcnd _
  have hval : ∀ (j : Nat) t v, Try.f4.params[j]? = some t → args[j]? = some v → Value.okWide Try.prog W .any base t v := hval0
  have hW' := hW
  obtain ⟨p, q, hA0, hV, rfl, hfz, hnd⟩ := hW
  have hA : DataW.TrodAll enc Try.prog W 0 (fun _ => true) true Try.f4.params.toList args.toList ds p := hA0
  rw [Try.params4] at hA hval
  obtain ⟨v0, vs0, d0, ds0, p0, q0, hargs, rfl, rfl, h0, r0⟩ := trodAll_cons hA
  obtain ⟨rfl, rfl, rfl⟩ := trodAll_nil r0
  obtain rfl : args = #[v0] := by cases args; simp_all
  obtain ⟨rfl, rfl⟩ := trodVars_none hV
  obtain ⟨a0, len0, cap0, rfl⟩ := okWide_slice Try.underlying22 (hval 0 22 v0 rfl rfl)
  have k0 := h0
  have lt0 : ∀ x ∈ p0, x.block < W.heap.size := by obtain ⟨m, hm⟩ := k0; exact DataW.trod_lt m _ _ _ hm
  obtain ⟨z0, w0⟩ : ∃ zs, IsRow .u8 W a0 len0 cap0 zs := by
    obtain ⟨fuel, hf⟩ := h0
    rcases open_ints Try.underlying22 Try.underlying5 (by kernel_rfl) hf with ⟨hcs, _⟩ | ⟨x, l, c, zs, hcs, _, hl, hm, hz, _, hcell, hwz⟩
    · simp [Value.cells] at hcs
      obtain ⟨rfl, rfl, rfl⟩ := hcs
      exact ⟨[], .inl ⟨rfl, rfl, rfl, rfl⟩⟩
    · simp [Value.cells] at hcs
      obtain ⟨rfl, rfl, rfl⟩ := hcs
      exact ⟨zs, .inr ⟨_, rfl, hl, hm, by simpa using hz, hcell, hwz⟩⟩
  clear hA0 hval0
  refine (walk a0 len0 cap0 z0 W w0).mono fun e W' ⟨he, bel⟩ => ?_
  subst he
  exact ⟨_, rfl, _, _, _, [], _, [], hW', trodAll_mk1 (shut_bool Try.underlying4 _), (trodAll_cons_mk (Below.trod laidOut (by kernel_rfl) (of_decide_eq_true (by kernel_rfl)) k0 bel lt0) trodAll_mk0), rfl, bel.frame _, fun h => by cases h⟩

theorem over : Rows.fnExprOkRow.holds Try.pinned (OpenSpec.ofChange Rows.fnExprOkSpec) :=
  OpenClaim.holds_of_wide 4 Try.f4 rfl rfl rfl rfl rfl rfl rfl ⟨rfl, rfl, rfl, rfl, rfl⟩ rfl rfl rfl rfl rfl (by kernel_rfl) Try.func4 (by kernel_rfl)
    (of_decide_eq_true (by kernel_rfl)) (by unfold Func.isWrapper; first | (rw [if_pos (by decide +kernel)]; kernel_rfl) | (rw [if_neg (by decide +kernel)]; exact ⟨rfl, rfl⟩))
    (fun os started H enc _ => lifted os started H enc)

theorem proved : Rows.FnExprOkSaid := over
end Go.Proofs.Ytlkompbigpbefab.fnExprOk
namespace Go.Proofs.Ytlkompbigpbefab
theorem fnExprOk_holds : Rows.FnExprOkSaid := fnExprOk.proved
#print axioms fnExprOk_holds
end Go.Proofs.Ytlkompbigpbefab
