/-
  How large a tree is: of whatever tree; ExprOk.
-/
import Derived.Test.YtlkompbigpbefabExprSize3
import Derived.Test.YtlkompbigpbefabExprSize4
namespace Go.Proofs.Ytlkompbigpbefab
open Go.RowKit Go.Sort
set_option linter.unusedVariables false
set_option maxRecDepth 8000
namespace ER
open EM SK
/-- Of whatever has Kids of which it is known. -/
theorem size_step (s : F) (h : AllS s) : PS s := by
  intro k a b v most w hk m0 m1
  obtain ⟨p, n, cap, rfl, hn, hr⟩ := hk
  subst hn
  have c0 := s.cnt_nn
  by_cases hm : most < 1
  · rw [szV_no2 (by omega)]
    exact size_no0 k a b most p _ cap m0 hm w
  · by_cases hl : (s.len : Int) = kidsN k
    · cases hf : formB k a b s.len
      · simp only [Bool.false_and]
        rw [szV_no1]
        unfold formB at hf
        rw [decide_eq_true hl, Bool.true_and] at hf
        simp only [Bool.or_eq_false_iff, decide_eq_false_iff_not] at hf
        obtain ⟨f1, f2, f3⟩ := hf
        by_cases k1 : k = 1
        · rw [k1] at hl
          have : s.len = 0 := by have e : kidsN 1 = 0 := rfl; omega
          rw [this]
          cases hA : NM.inB a (-1000) 1000
          · exact size_num_no1 k a b most p cap (by omega) m1 k1 hA w
          · cases hB : NM.inB b 1 1000
            · exact size_num_no2 k a b most p cap (by omega) m1 k1 hA hB w
            · have := of_decide_eq_true hA
              have := of_decide_eq_true hB
              omega
        · by_cases k4 : k = 4
          · rw [k4] at hl
            have : s.len = 0 := by have e : kidsN 4 = 0 := rfl; omega
            rw [this]
            cases hA : NM.inB a (-129600000) 129600000
            · exact size_sine_no1 k a b most p cap (by omega) m1 k4 hA w
            · refine size_sine_no2 k a b most p cap (by omega) m1 k4 hA (beq_false_of_ne fun z => ?_) w
              have := of_decide_eq_true hA
              omega
          · have kb := kidsN_le k
            have k0 : 0 < kidsN k := by
              rcases Int.lt_or_le 0 (kidsN k) with g | g
              · exact g
              · have hz : kidsN k = 0 := by omega
                unfold kidsN at hz
                split at hz
                · omega
                · split at hz
                  · omega
                  · split at hz <;> omega
            rcases (show kidsN k = 1 ∨ kidsN k = 2 by omega) with hm' | hm'
            · have : s.len = 1 := by omega
              rw [this]
              by_cases za : a = 0
              · exact size_of1_no2 k a b most p cap (by omega) m1 k1 k4 hm' za (beq_false_of_ne fun z => f3 ⟨k0, za, z⟩) w
              · exact size_of1_no1 k a b most p cap (by omega) m1 k1 k4 hm' (beq_false_of_ne za) w
            · have : s.len = 2 := by omega
              rw [this]
              by_cases za : a = 0
              · exact size_of2_no2 k a b most p cap (by omega) m1 k1 k4 hm' za (beq_false_of_ne fun z => f3 ⟨k0, za, z⟩) w
              · exact size_of2_no1 k a b most p cap (by omega) m1 k1 k4 hm' (beq_false_of_ne za) w
      · rw [Bool.true_and]
        rcases form_kinds hf with ⟨k1, hn, ha, hb⟩ | ⟨k4, hn, ha, rfl⟩ | ⟨hk, hn, rfl, rfl⟩ | ⟨hk, hn, rfl, rfl⟩
        · obtain rfl := len0 hn
          have e : szV F.nil.okF (1 + F.nil.cnt) most = 1 := szV_yes (by simp [F.cnt]; omega)
          rw [e]
          exact size_num k a b most p cap (by omega) m1 k1 (decide_eq_true ha) (decide_eq_true hb) w
        · obtain rfl := len0 hn
          have e : szV F.nil.okF (1 + F.nil.cnt) most = 1 := szV_yes (by simp [F.cnt]; omega)
          rw [e]
          exact size_sine k a most p cap (by omega) m1 k4 (decide_eq_true ha) w
        · obtain ⟨k1, a1, b1, t1, rfl⟩ := len1 hn
          rcases hr with hr | ⟨x, o, rfl, R⟩
          · omega
          · have e : szV (F.cons k1 a1 b1 t1 F.nil).okF (1 + (F.cons k1 a1 b1 t1 F.nil).cnt) most = szV (formB k1 a1 b1 t1.len && t1.okF) (2 + t1.cnt) most := by
              simp only [F.okF, F.cnt, Bool.and_true]
              congr 1
              omega
            rw [e]
            exact size_of1 k1 a1 b1 t1 k most x o cap (by omega) (by omega) (by rw [← hl]; rfl) (by omega) m1 h.1 w R
        · obtain ⟨k1, a1, b1, t1, k2, a2, b2, t2, rfl⟩ := len2 hn
          rcases hr with hr | ⟨x, o, rfl, R⟩
          · omega
          · have e : szV (F.cons k1 a1 b1 t1 (F.cons k2 a2 b2 t2 F.nil)).okF (1 + (F.cons k1 a1 b1 t1 (F.cons k2 a2 b2 t2 F.nil)).cnt) most = szV ((formB k1 a1 b1 t1.len && t1.okF) && (formB k2 a2 b2 t2.len && t2.okF)) (3 + t1.cnt + t2.cnt) most := by
              simp only [F.okF, F.cnt, Bool.and_true, Bool.and_assoc]
              congr 1
              omega
            rw [e]
            exact size_of2 k1 a1 b1 t1 k2 a2 b2 t2 k most x o cap (by omega) (by omega) (by rw [← hl]; rfl) (by omega) m1 h.1 h.2.1 w R
    · have hf : formB k a b s.len = false := by unfold formB; rw [decide_eq_false hl, Bool.false_and]
      rw [hf, Bool.false_and, szV_no1]
      exact size_no1 k a b most p _ cap (by omega) m1 hl w
theorem size_all : ∀ s : F, PS s ∧ AllS s
  | .nil => ⟨size_step .nil trivial, trivial⟩
  | .cons k a b t r => by
    have g : AllS (.cons k a b t r) := ⟨(size_all t).1, (size_all r).2⟩
    exact ⟨size_step _ g, g⟩
set_option maxHeartbeats 4000000 in
theorem sExprOk_any (k a b : Int) (s : F) (v : Value) (w : World) (h : Kids w s v) : Calls Try.prog 12 #[exV k a b v] w fun e w' => e = .returned (.bool (okB k a b s)) ∧ Below w.heap.size w w' := by
  have B := below_new w (.cells #[.int .i64 k, .int .i64 a, .int .i64 b, v] 25)
  have K := (size_all s).1 k a b v 15 _ (h.kept B) (by omega) (by omega)
  have e := okB_size (k := k) (a := a) (b := b) (s := s)
  generalize szV (formB k a b s.len && s.okF) (1 + s.cnt) 15 = z at *
  rw [← e]
  clear e
  obtain ⟨p, _, cap, rfl, rfl, _⟩ := h
  have E := Ex.new w k a b (.slice p s.len cap) 25
  obtain ⟨E0, E1, E2, E3⟩ := E
  replace K := Hide.mk K
  go_enter Try.func12, Try.ntmps12
  go_wp2_with fail
  refine K.out.mono ?_
  rintro e w1 ⟨rfl, Bx⟩
  replace B := below1 B Bx
  clear Bx E0 E1 E2 E3
  go_wp2
  go_ret
  exact ⟨rfl, B⟩
end ER
end Go.Proofs.Ytlkompbigpbefab
