/-
  For every code of bytes the law of the sign returns true: of a drawn angle the program's text is the specification's, and that of an angle below 0 has a sign ahead of the text of its contrary. No conditions.
-/
import Derived.Test.YtlhkedollclfiagRows
import Derived.WalkKit
import Derived.ProofKit
import Derived.OpenShut
import Derived.Test.YtlhkedollclfiagAngTextWalks
import Derived.Test.YtlhkedollclfiagAngTextImpl
import Derived.Test.YtlhkedollclfiagDrawAng
import Derived.ShutString
import Derived.ChangeOld
import Derived.Below
namespace Go.Proofs.Ytlhkedollclfiag.fnAngNeg
open Go.ChangeShapes Go.WideShapes Go.ChangeAt Go.RowKit
open Go.ChangeMaps (open_string shut_string)
set_option linter.unusedVariables false

theorem own : ownKnob Try.prog.godebug = none := by kernel_rfl
theorem laidOut : laidOutB Try.prog = true := by kernel_rfl

/-- WHAT THE WALK IS TOLD OF A SLICE OF INTEGERS THAT CAME IN: it is nil; or it leads to a row of 'cap' cells, the numbers 'zs' (the first 'len' are its elements, the rest its spare room), each fitting its kind. -/
def IsRow (k : IntKind) (w : World) (a : Option Addr) (len cap : Nat) (zs : List Int) : Prop :=
  (a = none ∧ len = 0 ∧ cap = 0 ∧ zs = []) ∨
  ∃ x, a = some x ∧ len ≤ cap ∧ cap ≤ maxLen ∧ zs.length = cap ∧ (∀ i, i < zs.length → w.cell? (x.add i) = some (.int k (zs.getD i 0))) ∧ ∀ n ∈ zs, (Lit.int k n).wf = true

theorem add_none (b off i : Nat) : (⟨b, off, none⟩ : Addr).add i = ⟨b, off + i, none⟩ := by
  unfold Addr.add
  split
  · rename_i h
    subst h
    rfl
  · rfl
theorem src {w : World} {a : Option Addr} {len cap : Nat} {zs : List Int} (h : IsRow .u8 w a len cap zs) : DK.Src w a len cap := by
  rcases h with ⟨rfl, rfl, rfl, rfl⟩ | ⟨x, rfl, hl, hm, hz, hcell, hwz⟩
  · exact ⟨by omega, by omega, .inl rfl⟩
  · unfold maxLen at hm
    refine ⟨hl, by omega, ?_⟩
    by_cases h0 : len = 0
    · exact .inl h0
    · obtain ⟨b, off, spot⟩ := x
      have hc := hcell 0 (by omega)
      have hspot : spot = none := by simpa [Addr.add] using World.cell?_spot hc
      subst hspot
      refine .inr ⟨b, off, rfl, fun i hi => ?_⟩
      have hi2 : i < zs.length := by omega
      have hb := bounds_u8 (hwz (zs.getD i 0) (by simp [List.getD, hi2]))
      have hci := hcell i hi2
      rw [add_none] at hci
      exact ⟨zs.getD i 0, hb.1, hb.2, hci⟩

set_option maxHeartbeats 8000000 in

theorem walk (a0 : Option Addr) (len0 cap0 : Nat) (z0 : List Int) (w : World) (w0 : IsRow .u8 w a0 len0 cap0 z0) :
    Calls Try.prog 5 #[.slice a0 len0 cap0] w fun e w' => e = .returned (.bool true) ∧ Below w.heap.size w w' := by
  by_cases hl : (len0 : Int) ≤ 1048576
  · go_enter Try.func5, Try.ntmps5
    go_wp2_with fail
    refine (DW.drawAngText_any _ _ _ _ (src w0)).mono ?_
    rintro e wd ⟨x, rfl, x0, x1, B⟩
    have I := fun w => AW.text_any x w
    have S := fun w => AW.sText_any x w
    cases h : AM.inT x
    · have e : AT.textV x = [] := by simp [AT.textV, h]
      rw [e] at I S
      clear e h
      go_wp2_with fail
      refine (I _).mono ?_
      rintro e w1 ⟨rfl, B2⟩
      replace B := AW.below1 B B2
      clear B2
      go_wp2_with fail
      refine (S _).mono ?_
      rintro e w2 ⟨rfl, B2⟩
      replace B := AW.below1 B B2
      clear B2
      go_wp2_with fail
      refine (S _).mono ?_
      rintro e w3 ⟨rfl, B2⟩
      replace B := AW.below1 B B2
      clear B2
      go_wp2
      go_ret
      exact ⟨rfl, B⟩
    · obtain ⟨a0, a1⟩ := AM.inT_of h
      have e : AT.textV x = AT.text x := by simp [AT.textV, h]
      rw [e] at I S
      have n : (AT.text x == []) = false := beq_false_of_ne (fun c => by have := AT.text_len x; rw [c] at this; simp at this)
      have len := (AT.text_len x).2
      have len2 := (AT.text_len (-x)).2
      have I2 := fun w => AW.text_any (-x) w
      have e2 : AT.textV (-x) = AT.text (-x) := by simp [AT.textV, AM.inT_mk (a := -x) (by omega) (by omega)]
      rw [e2] at I2
      clear e e2 h
      rcases (show x = 0 ∨ x < 0 ∨ 0 < x by omega) with rfl | c | c
      · generalize AT.text 0 = t at *
        clear I2 len2
        go_wp2_with fail
        refine (I _).mono ?_
        rintro e w1 ⟨rfl, B2⟩
        replace B := AW.below1 B B2
        clear B2
        go_wp2_with fail
        refine (S _).mono ?_
        rintro e w2 ⟨rfl, B2⟩
        replace B := AW.below1 B B2
        clear B2
        go_wp2_with fail
        refine (S _).mono ?_
        rintro e w3 ⟨rfl, B2⟩
        replace B := AW.below1 B B2
        clear B2
        go_wp2
        go_ret
        exact ⟨rfl, B⟩
      · have z : (x == 0) = false := by simp; omega
        have tn := AW.Hide.mk (AT.text_neg c)
        generalize AT.text x = t at *
        generalize AT.text (-x) = t2 at *
        have q : ∀ s : ByteArray, s = ⟨t2.toArray⟩ → (⟨#[45]⟩ : ByteArray) ++ s = ⟨t.toArray⟩ := fun s hs => by rw [hs, tn.out]; exact AW.cat [45] t2
        go_wp2_with fail
        refine (I _).mono ?_
        rintro e w1 ⟨rfl, B2⟩
        replace B := AW.below1 B B2
        clear B2
        go_wp2_with fail
        refine (S _).mono ?_
        rintro e w2 ⟨rfl, B2⟩
        replace B := AW.below1 B B2
        clear B2
        go_wp2_with fail
        refine (I2 _).mono ?_
        rintro e w3 ⟨rfl, B2⟩
        replace B := AW.below1 B B2
        clear B2
        have q' := q _ rfl
        clear q
        go_wp2
        go_ret
        exact ⟨rfl, B⟩
      · have z : (x == 0) = false := by simp; omega
        have tn := AW.Hide.mk (AT.text_neg (a := -x) (by omega))
        rw [Int.neg_neg] at tn
        generalize AT.text x = t at *
        generalize AT.text (-x) = t2 at *
        have q : ∀ s : ByteArray, s = ⟨t.toArray⟩ → (⟨#[45]⟩ : ByteArray) ++ s = ⟨t2.toArray⟩ := fun s hs => by rw [hs, tn.out]; exact AW.cat [45] t
        go_wp2_with fail
        refine (I _).mono ?_
        rintro e w1 ⟨rfl, B2⟩
        replace B := AW.below1 B B2
        clear B2
        go_wp2_with fail
        refine (S _).mono ?_
        rintro e w2 ⟨rfl, B2⟩
        replace B := AW.below1 B B2
        clear B2
        go_wp2_with fail
        refine (I2 _).mono ?_
        rintro e w3 ⟨rfl, B2⟩
        replace B := AW.below1 B B2
        clear B2
        have q' := q _ rfl
        clear q
        go_wp2
        go_ret
        exact ⟨rfl, B⟩
  · go_enter Try.func5, Try.ntmps5
    go_wp2
    go_ret
    exact ⟨rfl, Below.refl _ _⟩

set_option maxRecDepth 100000 in
theorem lifted (os : Os) (started : os.Started) (H : Type) (enc : TypeId × Value → H) :
    ReturnsInHanded {} Try.checked os 5 .any (Rows.fnAngNegSpec.pre6 enc Try.prog Try.f5 Rows.fnAngNegRow.domain false) (Rows.fnAngNegSpec.post enc Try.prog Try.f5 false true false false) := by
  refine returnsInHanded_of_change (C := Try.checked) own started (by kernel_rfl) Try.func5
    (ChangeSpec.witness6 (enc := enc) (C := Try.checked) false ⟨#[], #[.slice none 0 0], []⟩ 8 (by kernel_rfl) (by kernel_rfl) (by kernel_rfl) (by kernel_rfl)) ?_
  intro W base args ds gs before hval0 hW hcnd _
  have hval : ∀ (j : Nat) t v, Try.f5.params[j]? = some t → args[j]? = some v → Value.okWide Try.prog W .any base t v := hval0
  have hW' := hW
  obtain ⟨p, q, hA0, hV, rfl, hfz, hnd⟩ := hW
  have hA : DataW.TrodAll enc Try.prog W 0 (fun _ => true) true Try.f5.params.toList args.toList ds p := hA0
  rw [Try.params5] at hA hval
  obtain ⟨v0, vs0, d0, ds0, p0, q0, hargs, rfl, rfl, h0, r0⟩ := trodAll_cons hA
  obtain ⟨rfl, rfl, rfl⟩ := trodAll_nil r0
  obtain rfl : args = #[v0] := by cases args; simp_all
  obtain ⟨rfl, rfl⟩ := trodVars_none hV
  obtain ⟨a0, len0, cap0, rfl⟩ := okWide_slice Try.underlying22 (hval 0 22 v0 rfl rfl)
  have k0 := h0
  have lt0 : ∀ x ∈ p0, x.block < W.heap.size := by obtain ⟨m, hm⟩ := k0; exact DataW.trod_lt m _ _ _ hm
  obtain ⟨z0, w0⟩ : ∃ zs, IsRow .u8 W a0 len0 cap0 zs := by
    obtain ⟨fuel, hf⟩ := h0
    rcases open_ints Try.underlying22 Try.underlying5 (by kernel_rfl) hf with ⟨hcs, _⟩ | ⟨x, l, c, zs, hcs, _, hl, hm, hz, _, hcell, hwz⟩
    · simp [Value.cells] at hcs
      obtain ⟨rfl, rfl, rfl⟩ := hcs
      exact ⟨[], .inl ⟨rfl, rfl, rfl, rfl⟩⟩
    · simp [Value.cells] at hcs
      obtain ⟨rfl, rfl, rfl⟩ := hcs
      exact ⟨zs, .inr ⟨_, rfl, hl, hm, by simpa using hz, hcell, hwz⟩⟩
  clear hA0 hval0
  refine (walk a0 len0 cap0 z0 W w0).mono fun e W' ⟨he, bel⟩ => ?_
  subst he
  exact ⟨_, rfl, _, _, _, [], _, [], hW', trodAll_mk1 (shut_bool Try.underlying4 _), (trodAll_cons_mk (Below.trod laidOut (by kernel_rfl) (of_decide_eq_true (by kernel_rfl)) k0 bel lt0) trodAll_mk0), rfl, bel.frame _, fun h => by cases h⟩

theorem over : Rows.fnAngNegRow.holds Try.pinned (OpenSpec.ofChange Rows.fnAngNegSpec) :=
  OpenClaim.holds_of_wide 5 Try.f5 rfl rfl rfl rfl rfl rfl rfl ⟨rfl, rfl, rfl, rfl, rfl⟩ rfl rfl rfl rfl rfl (by kernel_rfl) Try.func5 (by kernel_rfl)
    (of_decide_eq_true (by kernel_rfl)) (by unfold Func.isWrapper; first | (rw [if_pos (by decide +kernel)]; kernel_rfl) | (rw [if_neg (by decide +kernel)]; exact ⟨rfl, rfl⟩))
    (fun os started H enc _ => lifted os started H enc)

theorem proved : Rows.FnAngNegSaid := over
end Go.Proofs.Ytlhkedollclfiag.fnAngNeg
namespace Go.Proofs.Ytlhkedollclfiag
theorem fnAngNeg_holds : Rows.FnAngNegSaid := fnAngNeg.proved
#print axioms fnAngNeg_holds
end Go.Proofs.Ytlhkedollclfiag
