/-
  The texts of places: what both sides' SpotText return; two places have one text just if they are told the same.
-/
import Derived.Test.YtfdkpcejjcifgauSpotImpl
import Derived.Test.YtfdkpcejjcifgauAngTextWalks
import Derived.Test.YtfdkpcejjcifgauAngTextImpl
import Derived.Test.YtfdkpcejjcifgauKeptStep
namespace Go.Proofs.Ytfdkpcejjcifgau
open Go.RowKit Go.Sort
set_option linter.unusedVariables false
namespace AT
theorem fig_sp {n : Int} (h0 : 0 ≤ n) (h1 : n ≤ 9) : (32 : UInt8) ≠ fig n := by
  intro e
  have z := fig_nat h0 h1
  rw [← e] at z
  have y : ((32 : UInt8).toNat : Int) = 32 := by decide
  omega
theorem two_sp {n : Int} (h0 : 0 ≤ n) (h1 : n ≤ 99) : (32 : UInt8) ∉ two n := by
  unfold two
  have a := fig_sp (n := n / 10) (by omega) (by omega)
  have b := fig_sp (n := n % 10) (by omega) (by omega)
  simp [a, b]
theorem dec_sp {n : Int} (h0 : 0 ≤ n) (h1 : n ≤ 360) : (32 : UInt8) ∉ dec n := by
  unfold dec
  split
  · have a := fig_sp (n := n) (by omega) (by omega)
    simp [a]
  · split
    · have a := fig_sp (n := n / 10) (by omega) (by omega)
      have b := fig_sp (n := n % 10) (by omega) (by omega)
      simp [a, b]
    · have a := fig_sp (n := n / 100) (by omega) (by omega)
      have b := fig_sp (n := n / 10 % 10) (by omega) (by omega)
      have c := fig_sp (n := n % 10) (by omega) (by omega)
      simp [a, b, c]
theorem text_sp {a : Int} (h : AM.inT a = true) : (32 : UInt8) ∉ text a := by
  obtain ⟨⟨d0, d1⟩, ⟨m0, m1⟩, ⟨s0, s1⟩, u0, u1⟩ := AM.parts_in h
  have a1 := dec_sp d0 d1
  have a2 := two_sp m0 (by omega)
  have a3 := two_sp s0 (by omega)
  have a4 := two_sp u0 u1
  have b : (32 : UInt8) ∉ body a := by
    unfold body
    simp [a1, a2, a3, a4]
  unfold text
  split
  · simp [b]
  · exact b
theorem split_sp : ∀ (x x' : List UInt8) {y y' : List UInt8}, (32 : UInt8) ∉ x → (32 : UInt8) ∉ x' → x ++ 32 :: y = x' ++ 32 :: y' → x = x' ∧ y = y' := by
  intro x
  induction x with
  | nil =>
    intro x' y y' _ h' e
    cases x' with
    | nil => simp only [List.nil_append, List.cons.injEq, true_and] at e; exact ⟨rfl, e⟩
    | cons c r =>
      simp only [List.nil_append, List.cons_append, List.cons.injEq] at e
      exact absurd (by rw [← e.1]; exact List.mem_cons_self ..) h'
  | cons c r ih =>
    intro x' y y' h h' e
    cases x' with
    | nil =>
      simp only [List.nil_append, List.cons_append, List.cons.injEq] at e
      exact absurd (by rw [e.1]; exact List.mem_cons_self ..) h
    | cons c' r' =>
      simp only [List.cons_append, List.cons.injEq] at e
      obtain ⟨rfl, e⟩ := e
      obtain ⟨h1, h2⟩ := ih r' (fun z => h (List.mem_cons_of_mem _ z)) (fun z => h' (List.mem_cons_of_mem _ z)) e
      exact ⟨by rw [h1], h2⟩
end AT
namespace SK
def spT (a l : Int) : List UInt8 := match okP a l with | true => AT.text a ++ 32 :: AT.text l | false => []
theorem spT_no {a l : Int} (h : okP a l = false) : spT a l = [] := by unfold spT; rw [h]
theorem spT_yes {a l : Int} (h : okP a l = true) : spT a l = AT.text a ++ 32 :: AT.text l := by unfold spT; rw [h]
theorem okP_inT {a l : Int} (h : okP a l = true) : AM.inT a = true ∧ AM.inT l = true := by
  obtain ⟨⟨a0, a1⟩, l0, l1⟩ := okP_of h
  exact ⟨AM.inT_mk (by omega) (by omega), AM.inT_mk (by omega) (by omega)⟩
theorem spT_inj {a l b m : Int} (h : okP a l = true) (g : okP b m = true) (e : spT a l = spT b m) : a = b ∧ l = m := by
  rw [spT_yes h, spT_yes g] at e
  obtain ⟨h1, h2⟩ := okP_inT h
  obtain ⟨g1, g2⟩ := okP_inT g
  obtain ⟨e1, e2⟩ := AT.split_sp _ _ (AT.text_sp h1) (AT.text_sp g1) e
  exact ⟨AT.text_inj h1 g1 e1, AT.text_inj h2 g2 e2⟩
theorem spT_ne {a l : Int} (h : okP a l = true) : spT a l ≠ [] := by
  rw [spT_yes h]
  intro e
  have := congrArg List.length e
  simp at this
theorem catSp (x y : List UInt8) : ((⟨x.toArray⟩ : ByteArray) ++ ⟨#[32]⟩) ++ ⟨y.toArray⟩ = ⟨(x ++ 32 :: y).toArray⟩ := by
  have e : (⟨#[32]⟩ : ByteArray) = ⟨[(32 : UInt8)].toArray⟩ := rfl
  rw [e, ByteArray.mk_append_mk, ByteArray.mk_append_mk]
  simp
theorem sSpotText_any (a l : Int) (w : World) : Calls Try.prog 9 #[spV a l] w fun e w' => e = .returned (.string ⟨(spT a l).toArray⟩) ∧ Below w.heap.size w w' := by
  have K := fun w => sSpotOk_any a l w
  have X := Box.new w a l 28
  have B := below_new w (.cells #[.int .i64 a, .int .i64 l] 28)
  cases h : okP a l
  · rw [spT_no h]
    rw [h] at K
    have ⟨x0, x1, x2, x3⟩ := X
    go_enter Try.func9, Try.ntmps9
    go_wp2_with fail
    refine (K _).mono ?_
    rintro e w1 ⟨rfl, B1⟩
    clear x0 x1 x2 x3
    go_wp2
    go_ret
    exact ⟨rfl, below1 B B1⟩
  · obtain ⟨i1, i2⟩ := okP_inT h
    have T1 : ∀ w, Calls Try.prog 17 #[.int .i64 a] w fun e w' => e = .returned (.string ⟨(AT.text a).toArray⟩) ∧ Below w.heap.size w w' := fun w => by have := AW.sText_any a w; rw [show AT.textV a = AT.text a by simp [AT.textV, i1]] at this; exact this
    have T2 : ∀ w, Calls Try.prog 17 #[.int .i64 l] w fun e w' => e = .returned (.string ⟨(AT.text l).toArray⟩) ∧ Below w.heap.size w w' := fun w => by have := AW.sText_any l w; rw [show AT.textV l = AT.text l by simp [AT.textV, i2]] at this; exact this
    rw [spT_yes h]
    rw [h] at K
    have C := catSp (AT.text a) (AT.text l)
    have g1 := (AT.text_len a).2
    have g2 := (AT.text_len l).2
    generalize AT.text a = ta at *
    generalize AT.text l = tl at *
    clear h i1 i2
    have n1 : ¬ 9223372036854775807 < ta.length + 1 := by omega
    have n2 : ¬ 9223372036854775807 < ta.length + 1 + tl.length := by omega
    have ⟨x0, x1, x2, x3⟩ := X
    go_enter Try.func9, Try.ntmps9
    go_wp2_with fail
    refine (K _).mono ?_
    rintro e w1 ⟨rfl, B1⟩
    clear x0 x1 x2 x3
    replace X := X.kept B1
    replace B := below1 B B1
    clear B1 K
    go_wp2_with fail
    have k0 := cell_regrown X.c0
    have k1 := cell_regrown X.c1
    have c1 : ∀ d os, Calls Try.prog 17 #[.int .i64 a] (grow (redrawn w1 d) os) fun e w'' => e = .returned (.string ⟨ta.toArray⟩) ∧ ∃ p : Regrown, w'' = grow (redrawn w1 p.d) p.os := fun d os => Calls.regrown_of (T1 _)
    have c2 : ∀ d os, Calls Try.prog 17 #[.int .i64 l] (grow (redrawn w1 d) os) fun e w'' => e = .returned (.string ⟨tl.toArray⟩) ∧ ∃ p : Regrown, w'' = grow (redrawn w1 p.d) p.os := fun d os => Calls.regrown_of (T2 _)
    refine KS.region (by kernel_rfl) (by kernel_rfl) ?_
    repeat (refine KS.step (fun K hK => ?_); go_simp; refine hK _ ?_; clear hK K)
    refine KS.step (fun K hK => ?_)
    go_simp
    apply Exists.intro
    refine ⟨fun _ => ?_, hK _ ?_⟩
    exact c1 _ _
    clear hK K
    repeat (refine KS.step (fun K hK => ?_); go_simp; refine hK _ ?_; clear hK K)
    refine KS.step (fun K hK => ?_)
    go_simp
    apply Exists.intro
    refine ⟨fun _ => ?_, hK _ ?_⟩
    exact c2 _ _
    clear hK K
    repeat (refine KS.step (fun K hK => ?_); go_simp; refine hK _ ?_; clear hK K)
    refine KS.nil ?_
    rintro _ ⟨p', rfl⟩
    clear c1 c2 k0 k1 T1 T2
    go_wp2
    go_ret
    exact ⟨rfl, below1 B (below_regrown _ _ _)⟩
theorem spotText_any (a l : Int) (w : World) : Calls Try.prog 10 #[spV a l] w fun e w' => e = .returned (.string ⟨(spT a l).toArray⟩) ∧ Below w.heap.size w w' := by
  have K := fun w => spotOk_any a l w
  have X := Box.new w a l 28
  have B := below_new w (.cells #[.int .i64 a, .int .i64 l] 28)
  cases h : okP a l
  · rw [spT_no h]
    rw [h] at K
    have ⟨x0, x1, x2, x3⟩ := X
    go_enter Try.func10, Try.ntmps10
    go_wp2_with fail
    refine (K _).mono ?_
    rintro e w1 ⟨rfl, B1⟩
    clear x0 x1 x2 x3
    go_wp2
    go_ret
    exact ⟨rfl, below1 B B1⟩
  · obtain ⟨i1, i2⟩ := okP_inT h
    have T1 : ∀ w, Calls Try.prog 18 #[.int .i64 a] w fun e w' => e = .returned (.string ⟨(AT.text a).toArray⟩) ∧ Below w.heap.size w w' := fun w => by have := AW.text_any a w; rw [show AT.textV a = AT.text a by simp [AT.textV, i1]] at this; exact this
    have T2 : ∀ w, Calls Try.prog 18 #[.int .i64 l] w fun e w' => e = .returned (.string ⟨(AT.text l).toArray⟩) ∧ Below w.heap.size w w' := fun w => by have := AW.text_any l w; rw [show AT.textV l = AT.text l by simp [AT.textV, i2]] at this; exact this
    rw [spT_yes h]
    rw [h] at K
    have C := catSp (AT.text a) (AT.text l)
    have g1 := (AT.text_len a).2
    have g2 := (AT.text_len l).2
    generalize AT.text a = ta at *
    generalize AT.text l = tl at *
    clear h i1 i2
    have n1 : ¬ 9223372036854775807 < ta.length + 1 := by omega
    have n2 : ¬ 9223372036854775807 < ta.length + 1 + tl.length := by omega
    have ⟨x0, x1, x2, x3⟩ := X
    go_enter Try.func10, Try.ntmps10
    go_wp2_with fail
    refine (K _).mono ?_
    rintro e w1 ⟨rfl, B1⟩
    clear x0 x1 x2 x3
    replace X := X.kept B1
    replace B := below1 B B1
    clear B1 K
    go_wp2_with fail
    have k0 := cell_regrown X.c0
    have k1 := cell_regrown X.c1
    have c1 : ∀ d os, Calls Try.prog 18 #[.int .i64 a] (grow (redrawn w1 d) os) fun e w'' => e = .returned (.string ⟨ta.toArray⟩) ∧ ∃ p : Regrown, w'' = grow (redrawn w1 p.d) p.os := fun d os => Calls.regrown_of (T1 _)
    have c2 : ∀ d os, Calls Try.prog 18 #[.int .i64 l] (grow (redrawn w1 d) os) fun e w'' => e = .returned (.string ⟨tl.toArray⟩) ∧ ∃ p : Regrown, w'' = grow (redrawn w1 p.d) p.os := fun d os => Calls.regrown_of (T2 _)
    refine KS.region (by kernel_rfl) (by kernel_rfl) ?_
    repeat (refine KS.step (fun K hK => ?_); go_simp; refine hK _ ?_; clear hK K)
    refine KS.step (fun K hK => ?_)
    go_simp
    apply Exists.intro
    refine ⟨fun _ => ?_, hK _ ?_⟩
    exact c1 _ _
    clear hK K
    repeat (refine KS.step (fun K hK => ?_); go_simp; refine hK _ ?_; clear hK K)
    refine KS.step (fun K hK => ?_)
    go_simp
    apply Exists.intro
    refine ⟨fun _ => ?_, hK _ ?_⟩
    exact c2 _ _
    clear hK K
    repeat (refine KS.step (fun K hK => ?_); go_simp; refine hK _ ?_; clear hK K)
    refine KS.nil ?_
    rintro _ ⟨p', rfl⟩
    clear c1 c2 k0 k1 T1 T2
    go_wp2
    go_ret
    exact ⟨rfl, below1 B (below_regrown _ _ _)⟩
end SK
end Go.Proofs.Ytfdkpcejjcifgau
