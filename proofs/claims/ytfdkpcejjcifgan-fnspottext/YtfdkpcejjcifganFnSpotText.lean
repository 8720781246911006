/-
  For every two codes of bytes the law of SpotText returns true: of drawn places the program's texts are the specification's, are the same just if the places are, and are made of the texts of both angles. No conditions.
-/
import Derived.Test.YtfdkpcejjcifganRows
import Derived.WalkKit
import Derived.ProofKit
import Derived.OpenShut
import Derived.Test.YtfdkpcejjcifganSpotTexts
import Derived.Test.YtfdkpcejjcifganDrawSpot3
import Derived.Test.YtfdkpcejjcifganKeptStep
import Derived.ShutString
import Derived.ChangeOld
import Derived.Below
namespace Go.Proofs.Ytfdkpcejjcifgan.fnSpotText
open Go.ChangeShapes Go.WideShapes Go.ChangeAt Go.RowKit
open Go.ChangeMaps (open_string shut_string)
set_option linter.unusedVariables false

theorem own : ownKnob Try.prog.godebug = none := by kernel_rfl
theorem laidOut : laidOutB Try.prog = true := by kernel_rfl

/-- WHAT THE WALK IS TOLD OF A SLICE OF INTEGERS THAT CAME IN: it is nil; or it leads to a row of 'cap' cells, the numbers 'zs' (the first 'len' are its elements, the rest its spare room), each fitting its kind. -/
def IsRow (k : IntKind) (w : World) (a : Option Addr) (len cap : Nat) (zs : List Int) : Prop :=
  (a = none ∧ len = 0 ∧ cap = 0 ∧ zs = []) ∨
  ∃ x, a = some x ∧ len ≤ cap ∧ cap ≤ maxLen ∧ zs.length = cap ∧ (∀ i, i < zs.length → w.cell? (x.add i) = some (.int k (zs.getD i 0))) ∧ ∀ n ∈ zs, (Lit.int k n).wf = true

theorem add_none (b off i : Nat) : (⟨b, off, none⟩ : Addr).add i = ⟨b, off + i, none⟩ := by
  unfold Addr.add
  split
  · rename_i h
    subst h
    rfl
  · rfl
theorem src {w : World} {a : Option Addr} {len cap : Nat} {zs : List Int} (h : IsRow .u8 w a len cap zs) : DK.Src w a len cap := by
  rcases h with ⟨rfl, rfl, rfl, rfl⟩ | ⟨x, rfl, hl, hm, hz, hcell, hwz⟩
  · exact ⟨by omega, by omega, .inl rfl⟩
  · unfold maxLen at hm
    refine ⟨hl, by omega, ?_⟩
    by_cases h0 : len = 0
    · exact .inl h0
    · obtain ⟨b, off, spot⟩ := x
      have hc := hcell 0 (by omega)
      have hspot : spot = none := by simpa [Addr.add] using World.cell?_spot hc
      subst hspot
      refine .inr ⟨b, off, rfl, fun i hi => ?_⟩
      have hi2 : i < zs.length := by omega
      have hb := bounds_u8 (hwz (zs.getD i 0) (by simp [List.getD, hi2]))
      have hci := hcell i hi2
      rw [add_none] at hci
      exact ⟨zs.getD i 0, hb.1, hb.2, hci⟩

open Go.RowKit Go.Sort
set_option maxHeartbeats 8000000 in

theorem walk (a0 : Option Addr) (len0 cap0 : Nat) (z0 : List Int) (a1 : Option Addr) (len1 cap1 : Nat) (z1 : List Int) (w : World) (w0 : IsRow .u8 w a0 len0 cap0 z0) (w1 : IsRow .u8 w a1 len1 cap1 z1) :
    Calls Try.prog 3 #[.slice a0 len0 cap0, .slice a1 len1 cap1] w fun e w' => e = .returned (.bool true) ∧ Below w.heap.size w w' := by
  by_cases hl : (len0 : Int) ≤ 1048576
  · by_cases hm : (len1 : Int) ≤ 1048576
    · go_enter Try.func3, Try.ntmps3
      go_wp2_with fail
      refine (DS.drawSpotText_any _ _ _ _ (src w0)).mono ?_
      rintro e v1 ⟨a, l, rfl, a0, a1, l0, l1, Bx⟩
      have B := Bx
      clear Bx
      have P := SK.Box.new v1 (a) (l) 24
      replace B := SK.below1 B (SK.below_new v1 (.cells #[.int .i64 (a), .int .i64 (l)] 24))
      go_wp2_with fail
      refine (DS.drawSpotText_any _ _ _ _ ((src w1).kept B)).mono ?_
      rintro e v2 ⟨b, m, rfl, b0, b1, m0, m1, Bx⟩
      replace P := P.kept Bx
      replace B := SK.below1 B Bx
      clear Bx
      replace P := P.alloc (.cells #[.int .i64 (b), .int .i64 (m)] 24)
      have Q := SK.Box.new v2 (b) (m) 24
      replace B := SK.below1 B (SK.below_new v2 (.cells #[.int .i64 (b), .int .i64 (m)] 24))
      cases hp : SK.okP a l
      · have I1 : ∀ w, Calls Try.prog 5 #[SK.spV (a) (l)] w fun e w' => e = .returned (.string ⟨([]).toArray⟩) ∧ Below w.heap.size w w' := fun w => by have := SK.spotText_any a l w; rw [SK.spT_no hp] at this; exact this
        have I2 : ∀ w, Calls Try.prog 5 #[SK.spV (b) (m)] w fun e w' => e = .returned (.string ⟨(SK.spT b m).toArray⟩) ∧ Below w.heap.size w w' := fun w => by have := SK.spotText_any b m w; exact this
        have S1 : ∀ w, Calls Try.prog 6 #[SK.spV (a) (l)] w fun e w' => e = .returned (.string ⟨([]).toArray⟩) ∧ Below w.heap.size w w' := fun w => by have := SK.sSpotText_any a l w; rw [SK.spT_no hp] at this; exact this
        have S2 : ∀ w, Calls Try.prog 6 #[SK.spV (b) (m)] w fun e w' => e = .returned (.string ⟨(SK.spT b m).toArray⟩) ∧ Below w.heap.size w w' := fun w => by have := SK.sSpotText_any b m w; exact this
        generalize SK.spT b m = T at *
        clear hp
        have ⟨Pc0, Pc1, Pf0, Pf1⟩ := P
        have ⟨Qc0, Qc1, Qf0, Qf1⟩ := Q
        go_wp2_with fail
        refine (I1 _).mono ?_
        rintro e v3 ⟨rfl, Bx⟩
        clear Pc0 Pc1 Pf0 Pf1 Qc0 Qc1 Qf0 Qf1
        replace P := P.kept Bx
        replace Q := Q.kept Bx
        replace B := SK.below1 B Bx
        clear Bx
        have ⟨Pc0, Pc1, Pf0, Pf1⟩ := P
        have ⟨Qc0, Qc1, Qf0, Qf1⟩ := Q
        go_wp2_with fail
        refine (I2 _).mono ?_
        rintro e v4 ⟨rfl, Bx⟩
        clear Pc0 Pc1 Pf0 Pf1 Qc0 Qc1 Qf0 Qf1
        replace P := P.kept Bx
        replace Q := Q.kept Bx
        replace B := SK.below1 B Bx
        clear Bx
        have ⟨Pc0, Pc1, Pf0, Pf1⟩ := P
        have ⟨Qc0, Qc1, Qf0, Qf1⟩ := Q
        go_wp2_with fail
        refine (S1 _).mono ?_
        rintro e v5 ⟨rfl, Bx⟩
        clear Pc0 Pc1 Pf0 Pf1 Qc0 Qc1 Qf0 Qf1
        replace P := P.kept Bx
        replace Q := Q.kept Bx
        replace B := SK.below1 B Bx
        clear Bx
        have ⟨Pc0, Pc1, Pf0, Pf1⟩ := P
        have ⟨Qc0, Qc1, Qf0, Qf1⟩ := Q
        go_wp2_with fail
        refine (S2 _).mono ?_
        rintro e v6 ⟨rfl, Bx⟩
        clear Pc0 Pc1 Pf0 Pf1 Qc0 Qc1 Qf0 Qf1
        replace P := P.kept Bx
        replace Q := Q.kept Bx
        replace B := SK.below1 B Bx
        clear Bx
        have ⟨Pc0, Pc1, Pf0, Pf1⟩ := P
        have ⟨Qc0, Qc1, Qf0, Qf1⟩ := Q
        go_wp2_with fail
        refine (S1 _).mono ?_
        rintro e v7 ⟨rfl, Bx⟩
        clear Pc0 Pc1 Pf0 Pf1 Qc0 Qc1 Qf0 Qf1
        replace P := P.kept Bx
        replace Q := Q.kept Bx
        replace B := SK.below1 B Bx
        clear Bx
        have ⟨Pc0, Pc1, Pf0, Pf1⟩ := P
        have ⟨Qc0, Qc1, Qf0, Qf1⟩ := Q
        go_wp2_with fail
        refine (S2 _).mono ?_
        rintro e v8 ⟨rfl, Bx⟩
        clear Pc0 Pc1 Pf0 Pf1 Qc0 Qc1 Qf0 Qf1
        replace P := P.kept Bx
        replace Q := Q.kept Bx
        replace B := SK.below1 B Bx
        clear Bx
        have ⟨Pc0, Pc1, Pf0, Pf1⟩ := P
        have ⟨Qc0, Qc1, Qf0, Qf1⟩ := Q
        go_wp2
        go_ret
        exact ⟨rfl, B⟩
      · cases hq : SK.okP b m
        · have I1 : ∀ w, Calls Try.prog 5 #[SK.spV (a) (l)] w fun e w' => e = .returned (.string ⟨(SK.spT a l).toArray⟩) ∧ Below w.heap.size w w' := fun w => by have := SK.spotText_any a l w; exact this
          have I2 : ∀ w, Calls Try.prog 5 #[SK.spV (b) (m)] w fun e w' => e = .returned (.string ⟨([]).toArray⟩) ∧ Below w.heap.size w w' := fun w => by have := SK.spotText_any b m w; rw [SK.spT_no hq] at this; exact this
          have S1 : ∀ w, Calls Try.prog 6 #[SK.spV (a) (l)] w fun e w' => e = .returned (.string ⟨(SK.spT a l).toArray⟩) ∧ Below w.heap.size w w' := fun w => by have := SK.sSpotText_any a l w; exact this
          have S2 : ∀ w, Calls Try.prog 6 #[SK.spV (b) (m)] w fun e w' => e = .returned (.string ⟨([]).toArray⟩) ∧ Below w.heap.size w w' := fun w => by have := SK.sSpotText_any b m w; rw [SK.spT_no hq] at this; exact this
          have n1 : (SK.spT a l == []) = false := beq_false_of_ne (SK.spT_ne hp)
          generalize SK.spT a l = S at *
          clear hp hq
          have ⟨Pc0, Pc1, Pf0, Pf1⟩ := P
          have ⟨Qc0, Qc1, Qf0, Qf1⟩ := Q
          go_wp2_with fail
          refine (I1 _).mono ?_
          rintro e v3 ⟨rfl, Bx⟩
          clear Pc0 Pc1 Pf0 Pf1 Qc0 Qc1 Qf0 Qf1
          replace P := P.kept Bx
          replace Q := Q.kept Bx
          replace B := SK.below1 B Bx
          clear Bx
          have ⟨Pc0, Pc1, Pf0, Pf1⟩ := P
          have ⟨Qc0, Qc1, Qf0, Qf1⟩ := Q
          go_wp2_with fail
          refine (I2 _).mono ?_
          rintro e v4 ⟨rfl, Bx⟩
          clear Pc0 Pc1 Pf0 Pf1 Qc0 Qc1 Qf0 Qf1
          replace P := P.kept Bx
          replace Q := Q.kept Bx
          replace B := SK.below1 B Bx
          clear Bx
          have ⟨Pc0, Pc1, Pf0, Pf1⟩ := P
          have ⟨Qc0, Qc1, Qf0, Qf1⟩ := Q
          go_wp2_with fail
          refine (S1 _).mono ?_
          rintro e v5 ⟨rfl, Bx⟩
          clear Pc0 Pc1 Pf0 Pf1 Qc0 Qc1 Qf0 Qf1
          replace P := P.kept Bx
          replace Q := Q.kept Bx
          replace B := SK.below1 B Bx
          clear Bx
          have ⟨Pc0, Pc1, Pf0, Pf1⟩ := P
          have ⟨Qc0, Qc1, Qf0, Qf1⟩ := Q
          go_wp2_with fail
          refine (S2 _).mono ?_
          rintro e v6 ⟨rfl, Bx⟩
          clear Pc0 Pc1 Pf0 Pf1 Qc0 Qc1 Qf0 Qf1
          replace P := P.kept Bx
          replace Q := Q.kept Bx
          replace B := SK.below1 B Bx
          clear Bx
          have ⟨Pc0, Pc1, Pf0, Pf1⟩ := P
          have ⟨Qc0, Qc1, Qf0, Qf1⟩ := Q
          go_wp2_with fail
          refine (S1 _).mono ?_
          rintro e v7 ⟨rfl, Bx⟩
          clear Pc0 Pc1 Pf0 Pf1 Qc0 Qc1 Qf0 Qf1
          replace P := P.kept Bx
          replace Q := Q.kept Bx
          replace B := SK.below1 B Bx
          clear Bx
          have ⟨Pc0, Pc1, Pf0, Pf1⟩ := P
          have ⟨Qc0, Qc1, Qf0, Qf1⟩ := Q
          go_wp2_with fail
          refine (S2 _).mono ?_
          rintro e v8 ⟨rfl, Bx⟩
          clear Pc0 Pc1 Pf0 Pf1 Qc0 Qc1 Qf0 Qf1
          replace P := P.kept Bx
          replace Q := Q.kept Bx
          replace B := SK.below1 B Bx
          clear Bx
          have ⟨Pc0, Pc1, Pf0, Pf1⟩ := P
          have ⟨Qc0, Qc1, Qf0, Qf1⟩ := Q
          go_wp2
          go_ret
          exact ⟨rfl, B⟩
        · by_cases zu : a = b
          · subst zu
            by_cases zz : l = m
            · subst zz
              have I1 : ∀ w, Calls Try.prog 5 #[SK.spV (a) (l)] w fun e w' => e = .returned (.string ⟨(SK.spT a l).toArray⟩) ∧ Below w.heap.size w w' := fun w => by have := SK.spotText_any a l w; exact this
              have I2 : ∀ w, Calls Try.prog 5 #[SK.spV (a) (l)] w fun e w' => e = .returned (.string ⟨(SK.spT a l).toArray⟩) ∧ Below w.heap.size w w' := fun w => by have := SK.spotText_any a l w; exact this
              have S1 : ∀ w, Calls Try.prog 6 #[SK.spV (a) (l)] w fun e w' => e = .returned (.string ⟨(SK.spT a l).toArray⟩) ∧ Below w.heap.size w w' := fun w => by have := SK.sSpotText_any a l w; exact this
              have S2 : ∀ w, Calls Try.prog 6 #[SK.spV (a) (l)] w fun e w' => e = .returned (.string ⟨(SK.spT a l).toArray⟩) ∧ Below w.heap.size w w' := fun w => by have := SK.sSpotText_any a l w; exact this
              have n1 : (SK.spT a l == []) = false := beq_false_of_ne (SK.spT_ne hp)
              have n2 : (SK.spT a l == []) = false := beq_false_of_ne (SK.spT_ne hq)
              obtain ⟨i1, i2⟩ := SK.okP_inT hp
              have A1 : ∀ w, Calls Try.prog 7 #[.int .i64 a] w fun e w' => e = .returned (.string ⟨(AT.text a).toArray⟩) ∧ Below w.heap.size w w' := fun w => by have := AW.text_any a w; rw [show AT.textV a = AT.text a by simp [AT.textV, i1]] at this; exact this
              have A2 : ∀ w, Calls Try.prog 7 #[.int .i64 l] w fun e w' => e = .returned (.string ⟨(AT.text l).toArray⟩) ∧ Below w.heap.size w w' := fun w => by have := AW.text_any l w; rw [show AT.textV l = AT.text l by simp [AT.textV, i2]] at this; exact this
              have C := SK.catSp (AT.text a) (AT.text l)
              rw [← SK.spT_yes hp] at C
              have g1 := (AT.text_len a).2
              have g2 := (AT.text_len l).2
              generalize AT.text a = ta at *
              generalize AT.text l = tl at *
              generalize SK.spT a l = S at *
              have e1 : ¬ 9223372036854775807 < ta.length + 1 := by omega
              have e2 : ¬ 9223372036854775807 < ta.length + 1 + tl.length := by omega
              clear hp hq i1 i2 g1 g2
              have ⟨Pc0, Pc1, Pf0, Pf1⟩ := P
              have ⟨Qc0, Qc1, Qf0, Qf1⟩ := Q
              go_wp2_with fail
              refine (I1 _).mono ?_
              rintro e v3 ⟨rfl, Bx⟩
              clear Pc0 Pc1 Pf0 Pf1 Qc0 Qc1 Qf0 Qf1
              replace P := P.kept Bx
              replace Q := Q.kept Bx
              replace B := SK.below1 B Bx
              clear Bx
              have ⟨Pc0, Pc1, Pf0, Pf1⟩ := P
              have ⟨Qc0, Qc1, Qf0, Qf1⟩ := Q
              go_wp2_with fail
              refine (I2 _).mono ?_
              rintro e v4 ⟨rfl, Bx⟩
              clear Pc0 Pc1 Pf0 Pf1 Qc0 Qc1 Qf0 Qf1
              replace P := P.kept Bx
              replace Q := Q.kept Bx
              replace B := SK.below1 B Bx
              clear Bx
              have ⟨Pc0, Pc1, Pf0, Pf1⟩ := P
              have ⟨Qc0, Qc1, Qf0, Qf1⟩ := Q
              go_wp2_with fail
              refine (S1 _).mono ?_
              rintro e v5 ⟨rfl, Bx⟩
              clear Pc0 Pc1 Pf0 Pf1 Qc0 Qc1 Qf0 Qf1
              replace P := P.kept Bx
              replace Q := Q.kept Bx
              replace B := SK.below1 B Bx
              clear Bx
              have ⟨Pc0, Pc1, Pf0, Pf1⟩ := P
              have ⟨Qc0, Qc1, Qf0, Qf1⟩ := Q
              go_wp2_with fail
              refine (S2 _).mono ?_
              rintro e v6 ⟨rfl, Bx⟩
              clear Pc0 Pc1 Pf0 Pf1 Qc0 Qc1 Qf0 Qf1
              replace P := P.kept Bx
              replace Q := Q.kept Bx
              replace B := SK.below1 B Bx
              clear Bx
              have ⟨Pc0, Pc1, Pf0, Pf1⟩ := P
              have ⟨Qc0, Qc1, Qf0, Qf1⟩ := Q
              go_wp2_with fail
              clear Pc0 Pc1 Pf0 Pf1 Qc0 Qc1 Qf0 Qf1
              have ⟨Pc0, Pc1, Pf0, Pf1⟩ := P
              have ⟨Qc0, Qc1, Qf0, Qf1⟩ := Q
              go_wp2_with fail
              clear Pc0 Pc1 Pf0 Pf1 Qc0 Qc1 Qf0 Qf1
              have Pk0 := cell_regrown P.c0
              have Pk1 := cell_regrown P.c1
              have Qk0 := cell_regrown Q.c0
              have Qk1 := cell_regrown Q.c1
              have c1 : ∀ d os, Calls Try.prog 7 #[.int .i64 a] (grow (redrawn v6 d) os) fun e w'' => e = .returned (.string ⟨ta.toArray⟩) ∧ ∃ p : Regrown, w'' = grow (redrawn v6 p.d) p.os := fun d os => Calls.regrown_of (A1 _)
              have c2 : ∀ d os, Calls Try.prog 7 #[.int .i64 l] (grow (redrawn v6 d) os) fun e w'' => e = .returned (.string ⟨tl.toArray⟩) ∧ ∃ p : Regrown, w'' = grow (redrawn v6 p.d) p.os := fun d os => Calls.regrown_of (A2 _)
              refine KS.region (by kernel_rfl) (by kernel_rfl) ?_
              repeat (refine KS.step (fun K hK => ?_); go_simp; refine hK _ ?_; clear hK K)
              refine KS.step (fun K hK => ?_)
              go_simp
              apply Exists.intro
              refine ⟨fun _ => ?_, hK _ ?_⟩
              exact c1 _ _
              clear hK K
              repeat (refine KS.step (fun K hK => ?_); go_simp; refine hK _ ?_; clear hK K)
              refine KS.step (fun K hK => ?_)
              go_simp
              apply Exists.intro
              refine ⟨fun _ => ?_, hK _ ?_⟩
              exact c2 _ _
              clear hK K
              repeat (refine KS.step (fun K hK => ?_); go_simp; refine hK _ ?_; clear hK K)
              refine KS.nil ?_
              rintro _ ⟨p, rfl⟩
              go_wp2
              go_ret
              exact ⟨rfl, SK.below1 B (below_regrown _ _ _)⟩
            · have I1 : ∀ w, Calls Try.prog 5 #[SK.spV (a) (l)] w fun e w' => e = .returned (.string ⟨(SK.spT a l).toArray⟩) ∧ Below w.heap.size w w' := fun w => by have := SK.spotText_any a l w; exact this
              have I2 : ∀ w, Calls Try.prog 5 #[SK.spV (a) (m)] w fun e w' => e = .returned (.string ⟨(SK.spT a m).toArray⟩) ∧ Below w.heap.size w w' := fun w => by have := SK.spotText_any a m w; exact this
              have S1 : ∀ w, Calls Try.prog 6 #[SK.spV (a) (l)] w fun e w' => e = .returned (.string ⟨(SK.spT a l).toArray⟩) ∧ Below w.heap.size w w' := fun w => by have := SK.sSpotText_any a l w; exact this
              have S2 : ∀ w, Calls Try.prog 6 #[SK.spV (a) (m)] w fun e w' => e = .returned (.string ⟨(SK.spT a m).toArray⟩) ∧ Below w.heap.size w w' := fun w => by have := SK.sSpotText_any a m w; exact this
              have n1 : (SK.spT a l == []) = false := beq_false_of_ne (SK.spT_ne hp)
              have n2 : (SK.spT a m == []) = false := beq_false_of_ne (SK.spT_ne hq)
              have q2 : (SK.spT a l == SK.spT a m) = false := beq_false_of_ne (fun z => zz (SK.spT_inj hp hq z).2)
              have q1 : (l == m) = false := beq_false_of_ne zz
              obtain ⟨i1, i2⟩ := SK.okP_inT hp
              have A1 : ∀ w, Calls Try.prog 7 #[.int .i64 a] w fun e w' => e = .returned (.string ⟨(AT.text a).toArray⟩) ∧ Below w.heap.size w w' := fun w => by have := AW.text_any a w; rw [show AT.textV a = AT.text a by simp [AT.textV, i1]] at this; exact this
              have A2 : ∀ w, Calls Try.prog 7 #[.int .i64 l] w fun e w' => e = .returned (.string ⟨(AT.text l).toArray⟩) ∧ Below w.heap.size w w' := fun w => by have := AW.text_any l w; rw [show AT.textV l = AT.text l by simp [AT.textV, i2]] at this; exact this
              have C := SK.catSp (AT.text a) (AT.text l)
              rw [← SK.spT_yes hp] at C
              have g1 := (AT.text_len a).2
              have g2 := (AT.text_len l).2
              generalize AT.text a = ta at *
              generalize AT.text l = tl at *
              generalize SK.spT a l = S at *
              generalize SK.spT a m = T at *
              have e1 : ¬ 9223372036854775807 < ta.length + 1 := by omega
              have e2 : ¬ 9223372036854775807 < ta.length + 1 + tl.length := by omega
              clear hp hq i1 i2 g1 g2 zz
              have ⟨Pc0, Pc1, Pf0, Pf1⟩ := P
              have ⟨Qc0, Qc1, Qf0, Qf1⟩ := Q
              go_wp2_with fail
              refine (I1 _).mono ?_
              rintro e v3 ⟨rfl, Bx⟩
              clear Pc0 Pc1 Pf0 Pf1 Qc0 Qc1 Qf0 Qf1
              replace P := P.kept Bx
              replace Q := Q.kept Bx
              replace B := SK.below1 B Bx
              clear Bx
              have ⟨Pc0, Pc1, Pf0, Pf1⟩ := P
              have ⟨Qc0, Qc1, Qf0, Qf1⟩ := Q
              go_wp2_with fail
              refine (I2 _).mono ?_
              rintro e v4 ⟨rfl, Bx⟩
              clear Pc0 Pc1 Pf0 Pf1 Qc0 Qc1 Qf0 Qf1
              replace P := P.kept Bx
              replace Q := Q.kept Bx
              replace B := SK.below1 B Bx
              clear Bx
              have ⟨Pc0, Pc1, Pf0, Pf1⟩ := P
              have ⟨Qc0, Qc1, Qf0, Qf1⟩ := Q
              go_wp2_with fail
              refine (S1 _).mono ?_
              rintro e v5 ⟨rfl, Bx⟩
              clear Pc0 Pc1 Pf0 Pf1 Qc0 Qc1 Qf0 Qf1
              replace P := P.kept Bx
              replace Q := Q.kept Bx
              replace B := SK.below1 B Bx
              clear Bx
              have ⟨Pc0, Pc1, Pf0, Pf1⟩ := P
              have ⟨Qc0, Qc1, Qf0, Qf1⟩ := Q
              go_wp2_with fail
              refine (S2 _).mono ?_
              rintro e v6 ⟨rfl, Bx⟩
              clear Pc0 Pc1 Pf0 Pf1 Qc0 Qc1 Qf0 Qf1
              replace P := P.kept Bx
              replace Q := Q.kept Bx
              replace B := SK.below1 B Bx
              clear Bx
              have ⟨Pc0, Pc1, Pf0, Pf1⟩ := P
              have ⟨Qc0, Qc1, Qf0, Qf1⟩ := Q
              go_wp2_with fail
              clear Pc0 Pc1 Pf0 Pf1 Qc0 Qc1 Qf0 Qf1
              have ⟨Pc0, Pc1, Pf0, Pf1⟩ := P
              have ⟨Qc0, Qc1, Qf0, Qf1⟩ := Q
              go_wp2_with fail
              clear Pc0 Pc1 Pf0 Pf1 Qc0 Qc1 Qf0 Qf1
              have Pk0 := cell_regrown P.c0
              have Pk1 := cell_regrown P.c1
              have Qk0 := cell_regrown Q.c0
              have Qk1 := cell_regrown Q.c1
              have c1 : ∀ d os, Calls Try.prog 7 #[.int .i64 a] (grow (redrawn v6 d) os) fun e w'' => e = .returned (.string ⟨ta.toArray⟩) ∧ ∃ p : Regrown, w'' = grow (redrawn v6 p.d) p.os := fun d os => Calls.regrown_of (A1 _)
              have c2 : ∀ d os, Calls Try.prog 7 #[.int .i64 l] (grow (redrawn v6 d) os) fun e w'' => e = .returned (.string ⟨tl.toArray⟩) ∧ ∃ p : Regrown, w'' = grow (redrawn v6 p.d) p.os := fun d os => Calls.regrown_of (A2 _)
              refine KS.region (by kernel_rfl) (by kernel_rfl) ?_
              repeat (refine KS.step (fun K hK => ?_); go_simp; refine hK _ ?_; clear hK K)
              refine KS.step (fun K hK => ?_)
              go_simp
              apply Exists.intro
              refine ⟨fun _ => ?_, hK _ ?_⟩
              exact c1 _ _
              clear hK K
              repeat (refine KS.step (fun K hK => ?_); go_simp; refine hK _ ?_; clear hK K)
              refine KS.step (fun K hK => ?_)
              go_simp
              apply Exists.intro
              refine ⟨fun _ => ?_, hK _ ?_⟩
              exact c2 _ _
              clear hK K
              repeat (refine KS.step (fun K hK => ?_); go_simp; refine hK _ ?_; clear hK K)
              refine KS.nil ?_
              rintro _ ⟨p, rfl⟩
              go_wp2
              go_ret
              exact ⟨rfl, SK.below1 B (below_regrown _ _ _)⟩
          · have zz := zu
            clear zu
            have I1 : ∀ w, Calls Try.prog 5 #[SK.spV (a) (l)] w fun e w' => e = .returned (.string ⟨(SK.spT a l).toArray⟩) ∧ Below w.heap.size w w' := fun w => by have := SK.spotText_any a l w; exact this
            have I2 : ∀ w, Calls Try.prog 5 #[SK.spV (b) (m)] w fun e w' => e = .returned (.string ⟨(SK.spT b m).toArray⟩) ∧ Below w.heap.size w w' := fun w => by have := SK.spotText_any b m w; exact this
            have S1 : ∀ w, Calls Try.prog 6 #[SK.spV (a) (l)] w fun e w' => e = .returned (.string ⟨(SK.spT a l).toArray⟩) ∧ Below w.heap.size w w' := fun w => by have := SK.sSpotText_any a l w; exact this
            have S2 : ∀ w, Calls Try.prog 6 #[SK.spV (b) (m)] w fun e w' => e = .returned (.string ⟨(SK.spT b m).toArray⟩) ∧ Below w.heap.size w w' := fun w => by have := SK.sSpotText_any b m w; exact this
            have n1 : (SK.spT a l == []) = false := beq_false_of_ne (SK.spT_ne hp)
            have n2 : (SK.spT b m == []) = false := beq_false_of_ne (SK.spT_ne hq)
            have q2 : (SK.spT a l == SK.spT b m) = false := beq_false_of_ne (fun z => zz (SK.spT_inj hp hq z).1)
            have q1 : (a == b) = false := beq_false_of_ne zz
            obtain ⟨i1, i2⟩ := SK.okP_inT hp
            have A1 : ∀ w, Calls Try.prog 7 #[.int .i64 a] w fun e w' => e = .returned (.string ⟨(AT.text a).toArray⟩) ∧ Below w.heap.size w w' := fun w => by have := AW.text_any a w; rw [show AT.textV a = AT.text a by simp [AT.textV, i1]] at this; exact this
            have A2 : ∀ w, Calls Try.prog 7 #[.int .i64 l] w fun e w' => e = .returned (.string ⟨(AT.text l).toArray⟩) ∧ Below w.heap.size w w' := fun w => by have := AW.text_any l w; rw [show AT.textV l = AT.text l by simp [AT.textV, i2]] at this; exact this
            have C := SK.catSp (AT.text a) (AT.text l)
            rw [← SK.spT_yes hp] at C
            have g1 := (AT.text_len a).2
            have g2 := (AT.text_len l).2
            generalize AT.text a = ta at *
            generalize AT.text l = tl at *
            generalize SK.spT a l = S at *
            generalize SK.spT b m = T at *
            have e1 : ¬ 9223372036854775807 < ta.length + 1 := by omega
            have e2 : ¬ 9223372036854775807 < ta.length + 1 + tl.length := by omega
            clear hp hq i1 i2 g1 g2 zz
            have ⟨Pc0, Pc1, Pf0, Pf1⟩ := P
            have ⟨Qc0, Qc1, Qf0, Qf1⟩ := Q
            go_wp2_with fail
            refine (I1 _).mono ?_
            rintro e v3 ⟨rfl, Bx⟩
            clear Pc0 Pc1 Pf0 Pf1 Qc0 Qc1 Qf0 Qf1
            replace P := P.kept Bx
            replace Q := Q.kept Bx
            replace B := SK.below1 B Bx
            clear Bx
            have ⟨Pc0, Pc1, Pf0, Pf1⟩ := P
            have ⟨Qc0, Qc1, Qf0, Qf1⟩ := Q
            go_wp2_with fail
            refine (I2 _).mono ?_
            rintro e v4 ⟨rfl, Bx⟩
            clear Pc0 Pc1 Pf0 Pf1 Qc0 Qc1 Qf0 Qf1
            replace P := P.kept Bx
            replace Q := Q.kept Bx
            replace B := SK.below1 B Bx
            clear Bx
            have ⟨Pc0, Pc1, Pf0, Pf1⟩ := P
            have ⟨Qc0, Qc1, Qf0, Qf1⟩ := Q
            go_wp2_with fail
            refine (S1 _).mono ?_
            rintro e v5 ⟨rfl, Bx⟩
            clear Pc0 Pc1 Pf0 Pf1 Qc0 Qc1 Qf0 Qf1
            replace P := P.kept Bx
            replace Q := Q.kept Bx
            replace B := SK.below1 B Bx
            clear Bx
            have ⟨Pc0, Pc1, Pf0, Pf1⟩ := P
            have ⟨Qc0, Qc1, Qf0, Qf1⟩ := Q
            go_wp2_with fail
            refine (S2 _).mono ?_
            rintro e v6 ⟨rfl, Bx⟩
            clear Pc0 Pc1 Pf0 Pf1 Qc0 Qc1 Qf0 Qf1
            replace P := P.kept Bx
            replace Q := Q.kept Bx
            replace B := SK.below1 B Bx
            clear Bx
            have ⟨Pc0, Pc1, Pf0, Pf1⟩ := P
            have ⟨Qc0, Qc1, Qf0, Qf1⟩ := Q
            go_wp2_with fail
            clear Pc0 Pc1 Pf0 Pf1 Qc0 Qc1 Qf0 Qf1
            have ⟨Pc0, Pc1, Pf0, Pf1⟩ := P
            have ⟨Qc0, Qc1, Qf0, Qf1⟩ := Q
            go_wp2_with fail
            clear Pc0 Pc1 Pf0 Pf1 Qc0 Qc1 Qf0 Qf1
            have Pk0 := cell_regrown P.c0
            have Pk1 := cell_regrown P.c1
            have Qk0 := cell_regrown Q.c0
            have Qk1 := cell_regrown Q.c1
            have c1 : ∀ d os, Calls Try.prog 7 #[.int .i64 a] (grow (redrawn v6 d) os) fun e w'' => e = .returned (.string ⟨ta.toArray⟩) ∧ ∃ p : Regrown, w'' = grow (redrawn v6 p.d) p.os := fun d os => Calls.regrown_of (A1 _)
            have c2 : ∀ d os, Calls Try.prog 7 #[.int .i64 l] (grow (redrawn v6 d) os) fun e w'' => e = .returned (.string ⟨tl.toArray⟩) ∧ ∃ p : Regrown, w'' = grow (redrawn v6 p.d) p.os := fun d os => Calls.regrown_of (A2 _)
            refine KS.region (by kernel_rfl) (by kernel_rfl) ?_
            repeat (refine KS.step (fun K hK => ?_); go_simp; refine hK _ ?_; clear hK K)
            refine KS.step (fun K hK => ?_)
            go_simp
            apply Exists.intro
            refine ⟨fun _ => ?_, hK _ ?_⟩
            exact c1 _ _
            clear hK K
            repeat (refine KS.step (fun K hK => ?_); go_simp; refine hK _ ?_; clear hK K)
            refine KS.step (fun K hK => ?_)
            go_simp
            apply Exists.intro
            refine ⟨fun _ => ?_, hK _ ?_⟩
            exact c2 _ _
            clear hK K
            repeat (refine KS.step (fun K hK => ?_); go_simp; refine hK _ ?_; clear hK K)
            refine KS.nil ?_
            rintro _ ⟨p, rfl⟩
            go_wp2
            go_ret
            exact ⟨rfl, SK.below1 B (below_regrown _ _ _)⟩
    · go_enter Try.func3, Try.ntmps3
      go_wp2
      go_ret
      exact ⟨rfl, Below.refl _ _⟩
  · go_enter Try.func3, Try.ntmps3
    go_wp2
    go_ret
    exact ⟨rfl, Below.refl _ _⟩

set_option maxRecDepth 100000 in
theorem lifted (os : Os) (started : os.Started) (H : Type) (enc : TypeId × Value → H) :
    ReturnsInHanded {} Try.checked os 3 .any (Rows.fnSpotTextSpec.pre6 enc Try.prog Try.f3 Rows.fnSpotTextRow.domain false) (Rows.fnSpotTextSpec.post enc Try.prog Try.f3 false true false false) := by
  refine returnsInHanded_of_change (C := Try.checked) own started (by kernel_rfl) Try.func3
    (ChangeSpec.witness6 (enc := enc) (C := Try.checked) false ⟨#[], #[.slice none 0 0, .slice none 0 0], []⟩ 8 (by kernel_rfl) (by kernel_rfl) (by kernel_rfl) (by kernel_rfl)) ?_
  intro W base args ds gs before hval0 hW hcnd _
  have hval : ∀ (j : Nat) t v, Try.f3.params[j]? = some t → args[j]? = some v → Value.okWide Try.prog W .any base t v := hval0
  have hW' := hW
  obtain ⟨p, q, hA0, hV, rfl, hfz, hnd⟩ := hW
  have hA : DataW.TrodAll enc Try.prog W 0 (fun _ => true) true Try.f3.params.toList args.toList ds p := hA0
  rw [Try.params3] at hA hval
  obtain ⟨v0, vs0, d0, ds0, p0, q0, hargs, rfl, rfl, h0, r0⟩ := trodAll_cons hA
  obtain ⟨v1, vs1, d1, ds1, p1, q1, rfl, rfl, rfl, h1, r1⟩ := trodAll_cons r0
  obtain ⟨rfl, rfl, rfl⟩ := trodAll_nil r1
  obtain rfl : args = #[v0, v1] := by cases args; simp_all
  obtain ⟨rfl, rfl⟩ := trodVars_none hV
  obtain ⟨a0, len0, cap0, rfl⟩ := okWide_slice Try.underlying22 (hval 0 22 v0 rfl rfl)
  have k0 := h0
  have lt0 : ∀ x ∈ p0, x.block < W.heap.size := by obtain ⟨m, hm⟩ := k0; exact DataW.trod_lt m _ _ _ hm
  obtain ⟨z0, w0⟩ : ∃ zs, IsRow .u8 W a0 len0 cap0 zs := by
    obtain ⟨fuel, hf⟩ := h0
    rcases open_ints Try.underlying22 Try.underlying5 (by kernel_rfl) hf with ⟨hcs, _⟩ | ⟨x, l, c, zs, hcs, _, hl, hm, hz, _, hcell, hwz⟩
    · simp [Value.cells] at hcs
      obtain ⟨rfl, rfl, rfl⟩ := hcs
      exact ⟨[], .inl ⟨rfl, rfl, rfl, rfl⟩⟩
    · simp [Value.cells] at hcs
      obtain ⟨rfl, rfl, rfl⟩ := hcs
      exact ⟨zs, .inr ⟨_, rfl, hl, hm, by simpa using hz, hcell, hwz⟩⟩
  obtain ⟨a1, len1, cap1, rfl⟩ := okWide_slice Try.underlying22 (hval 1 22 v1 rfl rfl)
  have k1 := h1
  have lt1 : ∀ x ∈ p1, x.block < W.heap.size := by obtain ⟨m, hm⟩ := k1; exact DataW.trod_lt m _ _ _ hm
  obtain ⟨z1, w1⟩ : ∃ zs, IsRow .u8 W a1 len1 cap1 zs := by
    obtain ⟨fuel, hf⟩ := h1
    rcases open_ints Try.underlying22 Try.underlying5 (by kernel_rfl) hf with ⟨hcs, _⟩ | ⟨x, l, c, zs, hcs, _, hl, hm, hz, _, hcell, hwz⟩
    · simp [Value.cells] at hcs
      obtain ⟨rfl, rfl, rfl⟩ := hcs
      exact ⟨[], .inl ⟨rfl, rfl, rfl, rfl⟩⟩
    · simp [Value.cells] at hcs
      obtain ⟨rfl, rfl, rfl⟩ := hcs
      exact ⟨zs, .inr ⟨_, rfl, hl, hm, by simpa using hz, hcell, hwz⟩⟩
  clear hA0 hval0
  refine (walk a0 len0 cap0 z0 a1 len1 cap1 z1 W w0 w1).mono fun e W' ⟨he, bel⟩ => ?_
  subst he
  exact ⟨_, rfl, _, _, _, [], _, [], hW', trodAll_mk1 (shut_bool Try.underlying4 _), (trodAll_cons_mk (Below.trod laidOut (by kernel_rfl) (of_decide_eq_true (by kernel_rfl)) k0 bel lt0) (trodAll_cons_mk (Below.trod laidOut (by kernel_rfl) (of_decide_eq_true (by kernel_rfl)) k1 bel lt1) trodAll_mk0)), rfl, bel.frame _, fun h => by cases h⟩

theorem over : Rows.fnSpotTextRow.holds Try.pinned (OpenSpec.ofChange Rows.fnSpotTextSpec) :=
  OpenClaim.holds_of_wide 3 Try.f3 rfl rfl rfl rfl rfl rfl rfl ⟨rfl, rfl, rfl, rfl, rfl⟩ rfl rfl rfl rfl rfl (by kernel_rfl) Try.func3 (by kernel_rfl)
    (of_decide_eq_true (by kernel_rfl)) (by unfold Func.isWrapper; first | (rw [if_pos (by decide +kernel)]; kernel_rfl) | (rw [if_neg (by decide +kernel)]; exact ⟨rfl, rfl⟩))
    (fun os started H enc _ => lifted os started H enc)

theorem proved : Rows.FnSpotTextSaid := over
end Go.Proofs.Ytfdkpcejjcifgan.fnSpotText
namespace Go.Proofs.Ytfdkpcejjcifgan
theorem fnSpotText_holds : Rows.FnSpotTextSaid := fnSpotText.proved
#print axioms fnSpotText_holds
end Go.Proofs.Ytfdkpcejjcifgan
