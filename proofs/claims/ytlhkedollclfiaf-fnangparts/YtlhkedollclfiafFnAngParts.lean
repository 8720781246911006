/-
  For every code of bytes the law of AngParts returns true: of a drawn angle the program's AngParts is the specification's, and AngOf of these parts is the angle. No conditions.
-/
import Derived.Test.YtlhkedollclfiafRows
import Derived.WalkKit
import Derived.ProofKit
import Derived.OpenShut
import Derived.Test.YtlhkedollclfiafAngImpl
import Derived.Test.YtlhkedollclfiafDrawAng
import Derived.ShutString
import Derived.ChangeOld
import Derived.Below
namespace Go.Proofs.Ytlhkedollclfiaf.fnAngParts
open Go.ChangeShapes Go.WideShapes Go.ChangeAt Go.RowKit
open Go.ChangeMaps (open_string shut_string)
set_option linter.unusedVariables false

theorem own : ownKnob Try.prog.godebug = none := by kernel_rfl
theorem laidOut : laidOutB Try.prog = true := by kernel_rfl

/-- WHAT THE WALK IS TOLD OF A SLICE OF INTEGERS THAT CAME IN: it is nil; or it leads to a row of 'cap' cells, the numbers 'zs' (the first 'len' are its elements, the rest its spare room), each fitting its kind. -/
def IsRow (k : IntKind) (w : World) (a : Option Addr) (len cap : Nat) (zs : List Int) : Prop :=
  (a = none ∧ len = 0 ∧ cap = 0 ∧ zs = []) ∨
  ∃ x, a = some x ∧ len ≤ cap ∧ cap ≤ maxLen ∧ zs.length = cap ∧ (∀ i, i < zs.length → w.cell? (x.add i) = some (.int k (zs.getD i 0))) ∧ ∀ n ∈ zs, (Lit.int k n).wf = true

theorem add_none (b off i : Nat) : (⟨b, off, none⟩ : Addr).add i = ⟨b, off + i, none⟩ := by
  unfold Addr.add
  split
  · rename_i h
    subst h
    rfl
  · rfl
theorem src {w : World} {a : Option Addr} {len cap : Nat} {zs : List Int} (h : IsRow .u8 w a len cap zs) : DK.Src w a len cap := by
  rcases h with ⟨rfl, rfl, rfl, rfl⟩ | ⟨x, rfl, hl, hm, hz, hcell, hwz⟩
  · exact ⟨by omega, by omega, .inl rfl⟩
  · unfold maxLen at hm
    refine ⟨hl, by omega, ?_⟩
    by_cases h0 : len = 0
    · exact .inl h0
    · obtain ⟨b, off, spot⟩ := x
      have hc := hcell 0 (by omega)
      have hspot : spot = none := by simpa [Addr.add] using World.cell?_spot hc
      subst hspot
      refine .inr ⟨b, off, rfl, fun i hi => ?_⟩
      have hi2 : i < zs.length := by omega
      have hb := bounds_u8 (hwz (zs.getD i 0) (by simp [List.getD, hi2]))
      have hci := hcell i hi2
      rw [add_none] at hci
      exact ⟨zs.getD i 0, hb.1, hb.2, hci⟩

set_option maxHeartbeats 8000000 in

theorem walk (a0 : Option Addr) (len0 cap0 : Nat) (z0 : List Int) (w : World) (w0 : IsRow .u8 w a0 len0 cap0 z0) :
    Calls Try.prog 6 #[.slice a0 len0 cap0] w fun e w' => e = .returned (.bool true) ∧ Below w.heap.size w w' := by
  by_cases hl : (len0 : Int) ≤ 1048576
  · go_enter Try.func6, Try.ntmps6
    go_wp2_with fail
    refine (DW.drawAngParts_any _ _ _ _ (src w0)).mono ?_
    rintro e wd ⟨x, rfl, x0, x1, B⟩
    cases h : AM.inT x
    · have P1 := fun w => AW.sParts_no x w h
      have P2 := fun w => AW.parts_no x w h
      clear h
      go_wp2_with fail
      refine (P1 _).mono ?_
      rintro e w1 ⟨rfl, B1⟩
      replace B := AW.below1 B B1
      clear B1
      have F1 := AW.Five.new w1 false 0 0 0 0 32
      replace B := AW.below1 B (AW.below_new w1 (.cells #[.bool false, .int .i64 0, .int .i64 0, .int .i64 0, .int .i64 0] 32))
      go_wp2_with fail
      refine (P2 _).mono ?_
      rintro e w2 ⟨rfl, B2⟩
      replace F1 := F1.kept B2
      replace B := AW.below1 B B2
      clear B2 P1 P2
      replace F1 := F1.kept (AW.below_new w2 (.cells #[.bool false, .int .i64 0, .int .i64 0, .int .i64 0, .int .i64 0] 32))
      have F2 := AW.Five.new w2 false 0 0 0 0 32
      replace B := AW.below1 B (AW.below_new w2 (.cells #[.bool false, .int .i64 0, .int .i64 0, .int .i64 0, .int .i64 0] 32))
      obtain ⟨c0, c1, c2, c3, c4⟩ := F1
      obtain ⟨b0, b1, b2, b3, b4⟩ := F2
      go_wp2
      go_ret
      exact ⟨rfl, B⟩
    · have P1 := fun w => AW.sParts_yes x w h
      have P2 := fun w => AW.parts_yes x w h
      have O := fun w => AW.of_any (decide (x < 0)) (AM.deg x) (AM.mi x) (AM.se x) (AM.hu x) w
      obtain ⟨o1, o2⟩ := AM.of_parts h
      obtain ⟨⟨d0, d1⟩, ⟨m0, m1⟩, ⟨s0, s1⟩, u0, u1⟩ := AM.parts_in h
      rw [o1, o2] at O
      obtain ⟨l, hl⟩ : ∃ l, decide (x < 0) = l := ⟨_, rfl⟩
      rw [hl] at P1 P2 O
      clear o1 o2
      generalize AM.deg x = d at *
      generalize AM.mi x = m at *
      generalize AM.se x = s at *
      generalize AM.hu x = u at *
      clear h
      go_wp2_with fail
      refine (P1 _).mono ?_
      rintro e w1 ⟨rfl, B1⟩
      replace B := AW.below1 B B1
      clear B1
      have F1 := AW.Five.new w1 l d m s u 32
      replace B := AW.below1 B (AW.below_new w1 (.cells #[.bool l, .int .i64 d, .int .i64 m, .int .i64 s, .int .i64 u] 32))
      go_wp2_with fail
      refine (P2 _).mono ?_
      rintro e w2 ⟨rfl, B2⟩
      replace F1 := F1.kept B2
      replace B := AW.below1 B B2
      clear B2 P1 P2
      replace F1 := F1.kept (AW.below_new w2 (.cells #[.bool l, .int .i64 d, .int .i64 m, .int .i64 s, .int .i64 u] 32))
      have F2 := AW.Five.new w2 l d m s u 32
      replace B := AW.below1 B (AW.below_new w2 (.cells #[.bool l, .int .i64 d, .int .i64 m, .int .i64 s, .int .i64 u] 32))
      have G1 := F1
      have G2 := F2
      obtain ⟨c0, c1, c2, c3, c4⟩ := F1
      obtain ⟨b0, b1, b2, b3, b4⟩ := F2
      go_wp2_with fail
      refine (O _).mono ?_
      rintro e w3 ⟨rfl, B3⟩
      clear c0 c1 c2 c3 c4 b0 b1 b2 b3 b4
      obtain ⟨c0, c1, c2, c3, c4⟩ := G1.kept B3
      obtain ⟨b0, b1, b2, b3, b4⟩ := G2.kept B3
      replace B := AW.below1 B B3
      clear B3 O G1 G2
      go_wp2
      go_ret
      exact ⟨rfl, B⟩
  · go_enter Try.func6, Try.ntmps6
    go_wp2
    go_ret
    exact ⟨rfl, Below.refl _ _⟩

set_option maxRecDepth 100000 in
theorem lifted (os : Os) (started : os.Started) (H : Type) (enc : TypeId × Value → H) :
    ReturnsInHanded {} Try.checked os 6 .any (Rows.fnAngPartsSpec.pre6 enc Try.prog Try.f6 Rows.fnAngPartsRow.domain false) (Rows.fnAngPartsSpec.post enc Try.prog Try.f6 false true false false) := by
  refine returnsInHanded_of_change (C := Try.checked) own started (by kernel_rfl) Try.func6
    (ChangeSpec.witness6 (enc := enc) (C := Try.checked) false ⟨#[], #[.slice none 0 0], []⟩ 8 (by kernel_rfl) (by kernel_rfl) (by kernel_rfl) (by kernel_rfl)) ?_
  intro W base args ds gs before hval0 hW hcnd _
  have hval : ∀ (j : Nat) t v, Try.f6.params[j]? = some t → args[j]? = some v → Value.okWide Try.prog W .any base t v := hval0
  have hW' := hW
  obtain ⟨p, q, hA0, hV, rfl, hfz, hnd⟩ := hW
  have hA : DataW.TrodAll enc Try.prog W 0 (fun _ => true) true Try.f6.params.toList args.toList ds p := hA0
  rw [Try.params6] at hA hval
  obtain ⟨v0, vs0, d0, ds0, p0, q0, hargs, rfl, rfl, h0, r0⟩ := trodAll_cons hA
  obtain ⟨rfl, rfl, rfl⟩ := trodAll_nil r0
  obtain rfl : args = #[v0] := by cases args; simp_all
  obtain ⟨rfl, rfl⟩ := trodVars_none hV
  obtain ⟨a0, len0, cap0, rfl⟩ := okWide_slice Try.underlying22 (hval 0 22 v0 rfl rfl)
  have k0 := h0
  have lt0 : ∀ x ∈ p0, x.block < W.heap.size := by obtain ⟨m, hm⟩ := k0; exact DataW.trod_lt m _ _ _ hm
  obtain ⟨z0, w0⟩ : ∃ zs, IsRow .u8 W a0 len0 cap0 zs := by
    obtain ⟨fuel, hf⟩ := h0
    rcases open_ints Try.underlying22 Try.underlying5 (by kernel_rfl) hf with ⟨hcs, _⟩ | ⟨x, l, c, zs, hcs, _, hl, hm, hz, _, hcell, hwz⟩
    · simp [Value.cells] at hcs
      obtain ⟨rfl, rfl, rfl⟩ := hcs
      exact ⟨[], .inl ⟨rfl, rfl, rfl, rfl⟩⟩
    · simp [Value.cells] at hcs
      obtain ⟨rfl, rfl, rfl⟩ := hcs
      exact ⟨zs, .inr ⟨_, rfl, hl, hm, by simpa using hz, hcell, hwz⟩⟩
  clear hA0 hval0
  refine (walk a0 len0 cap0 z0 W w0).mono fun e W' ⟨he, bel⟩ => ?_
  subst he
  exact ⟨_, rfl, _, _, _, [], _, [], hW', trodAll_mk1 (shut_bool Try.underlying4 _), (trodAll_cons_mk (Below.trod laidOut (by kernel_rfl) (of_decide_eq_true (by kernel_rfl)) k0 bel lt0) trodAll_mk0), rfl, bel.frame _, fun h => by cases h⟩

theorem over : Rows.fnAngPartsRow.holds Try.pinned (OpenSpec.ofChange Rows.fnAngPartsSpec) :=
  OpenClaim.holds_of_wide 6 Try.f6 rfl rfl rfl rfl rfl rfl rfl ⟨rfl, rfl, rfl, rfl, rfl⟩ rfl rfl rfl rfl rfl (by kernel_rfl) Try.func6 (by kernel_rfl)
    (of_decide_eq_true (by kernel_rfl)) (by unfold Func.isWrapper; first | (rw [if_pos (by decide +kernel)]; kernel_rfl) | (rw [if_neg (by decide +kernel)]; exact ⟨rfl, rfl⟩))
    (fun os started H enc _ => lifted os started H enc)

theorem proved : Rows.FnAngPartsSaid := over
end Go.Proofs.Ytlhkedollclfiaf.fnAngParts
namespace Go.Proofs.Ytlhkedollclfiaf
theorem fnAngParts_holds : Rows.FnAngPartsSaid := fnAngParts.proved
#print axioms fnAngParts_holds
end Go.Proofs.Ytlhkedollclfiaf
