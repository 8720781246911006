/-
  For every code of bytes the law of FanHas returns true: of a drawn fan and angle the program's FanHas is the specification's; what is in a fan is between its ends, which are in it. No conditions.
-/
import Derived.Test.YtgpnnaafialkjakRows
import Derived.WalkKit
import Derived.ProofKit
import Derived.OpenShut
import Derived.Test.YtgpnnaafialkjakFanWalks
import Derived.Test.YtgpnnaafialkjakDrawFan
import Derived.ShutString
import Derived.ChangeOld
import Derived.Below
namespace Go.Proofs.Ytgpnnaafialkjak.fnFanHas
open Go.ChangeShapes Go.WideShapes Go.ChangeAt Go.RowKit
open Go.ChangeMaps (open_string shut_string)
set_option linter.unusedVariables false

theorem own : ownKnob Try.prog.godebug = none := by kernel_rfl
theorem laidOut : laidOutB Try.prog = true := by kernel_rfl

/-- WHAT THE WALK IS TOLD OF A SLICE OF INTEGERS THAT CAME IN: it is nil; or it leads to a row of 'cap' cells, the numbers 'zs' (the first 'len' are its elements, the rest its spare room), each fitting its kind. -/
def IsRow (k : IntKind) (w : World) (a : Option Addr) (len cap : Nat) (zs : List Int) : Prop :=
  (a = none ∧ len = 0 ∧ cap = 0 ∧ zs = []) ∨
  ∃ x, a = some x ∧ len ≤ cap ∧ cap ≤ maxLen ∧ zs.length = cap ∧ (∀ i, i < zs.length → w.cell? (x.add i) = some (.int k (zs.getD i 0))) ∧ ∀ n ∈ zs, (Lit.int k n).wf = true

theorem add_none (b off i : Nat) : (⟨b, off, none⟩ : Addr).add i = ⟨b, off + i, none⟩ := by
  unfold Addr.add
  split
  · rename_i h
    subst h
    rfl
  · rfl
theorem src {w : World} {a : Option Addr} {len cap : Nat} {zs : List Int} (h : IsRow .u8 w a len cap zs) : DK.Src w a len cap := by
  rcases h with ⟨rfl, rfl, rfl, rfl⟩ | ⟨x, rfl, hl, hm, hz, hcell, hwz⟩
  · exact ⟨by omega, by omega, .inl rfl⟩
  · unfold maxLen at hm
    refine ⟨hl, by omega, ?_⟩
    by_cases h0 : len = 0
    · exact .inl h0
    · obtain ⟨b, off, spot⟩ := x
      have hc := hcell 0 (by omega)
      have hspot : spot = none := by simpa [Addr.add] using World.cell?_spot hc
      subst hspot
      refine .inr ⟨b, off, rfl, fun i hi => ?_⟩
      have hi2 : i < zs.length := by omega
      have hb := bounds_u8 (hwz (zs.getD i 0) (by simp [List.getD, hi2]))
      have hci := hcell i hi2
      rw [add_none] at hci
      exact ⟨zs.getD i 0, hb.1, hb.2, hci⟩

set_option maxHeartbeats 8000000 in

theorem walk (a0 : Option Addr) (len0 cap0 : Nat) (z0 : List Int) (w : World) (w0 : IsRow .u8 w a0 len0 cap0 z0) :
    Calls Try.prog 8 #[.slice a0 len0 cap0] w fun e w' => e = .returned (.bool true) ∧ Below w.heap.size w w' := by
  by_cases hl : (len0 : Int) ≤ 1048576
  · go_enter Try.func8, Try.ntmps8
    go_wp2_with fail
    refine (DF.drawFanHas_any _ _ _ _ (src w0)).mono ?_
    rintro e d1 ⟨l, h, x, rfl, l0, l1, h0, h1, x0, x1, Bx⟩
    have B := Bx
    clear Bx
    have F := SK.Box.new d1 (l) (h) 26
    replace B := SK.below1 B (SK.below_new d1 (.cells #[.int .i64 (l), .int .i64 (h)] 26))
    cases hx : SK.hasF l h x
    · have H1 : ∀ w, Calls Try.prog 14 #[SK.spV l h, .int .i64 x] w fun e w' => e = .returned (.bool false) ∧ Below w.heap.size w w' := fun w => by have := SK.fanHas_any l h x w; rw [hx] at this; exact this
      have H2 : ∀ w, Calls Try.prog 16 #[SK.spV l h, .int .i64 x] w fun e w' => e = .returned (.bool false) ∧ Below w.heap.size w w' := fun w => by have := SK.sFanHas_any l h x w; rw [hx] at this; exact this
      clear hx
      have ⟨Fc0, Fc1, Ff0, Ff1⟩ := F
      go_wp2_with fail
      refine (H1 _).mono ?_
      rintro e v1 ⟨rfl, Bx⟩
      clear Fc0 Fc1 Ff0 Ff1
      replace F := F.kept Bx
      replace B := SK.below1 B Bx
      clear Bx
      have ⟨Fc0, Fc1, Ff0, Ff1⟩ := F
      go_wp2_with fail
      refine (H2 _).mono ?_
      rintro e v2 ⟨rfl, Bx⟩
      clear Fc0 Fc1 Ff0 Ff1
      replace F := F.kept Bx
      replace B := SK.below1 B Bx
      clear Bx
      have ⟨Fc0, Fc1, Ff0, Ff1⟩ := F
      go_wp2
      go_ret
      exact ⟨rfl, B⟩
    · have H1 : ∀ w, Calls Try.prog 14 #[SK.spV l h, .int .i64 x] w fun e w' => e = .returned (.bool true) ∧ Below w.heap.size w w' := fun w => by have := SK.fanHas_any l h x w; rw [hx] at this; exact this
      have H2 : ∀ w, Calls Try.prog 16 #[SK.spV l h, .int .i64 x] w fun e w' => e = .returned (.bool true) ∧ Below w.heap.size w w' := fun w => by have := SK.sFanHas_any l h x w; rw [hx] at this; exact this
      obtain ⟨ok, g1, g2⟩ := SK.hasF_of hx
      obtain ⟨f1, f2, f3⟩ := SK.okF_of ok
      have H3 : ∀ w, Calls Try.prog 14 #[SK.spV l h, .int .i64 l] w fun e w' => e = .returned (.bool true) ∧ Below w.heap.size w w' := fun w => by have := SK.fanHas_any l h l w; rw [SK.hasF_mk ok (by omega) (by omega)] at this; exact this
      have H4 : ∀ w, Calls Try.prog 14 #[SK.spV l h, .int .i64 h] w fun e w' => e = .returned (.bool true) ∧ Below w.heap.size w w' := fun w => by have := SK.fanHas_any l h h w; rw [SK.hasF_mk ok (by omega) (by omega)] at this; exact this
      clear ok
      clear hx
      have ⟨Fc0, Fc1, Ff0, Ff1⟩ := F
      go_wp2_with fail
      refine (H1 _).mono ?_
      rintro e v1 ⟨rfl, Bx⟩
      clear Fc0 Fc1 Ff0 Ff1
      replace F := F.kept Bx
      replace B := SK.below1 B Bx
      clear Bx
      have ⟨Fc0, Fc1, Ff0, Ff1⟩ := F
      go_wp2_with fail
      refine (H2 _).mono ?_
      rintro e v2 ⟨rfl, Bx⟩
      clear Fc0 Fc1 Ff0 Ff1
      replace F := F.kept Bx
      replace B := SK.below1 B Bx
      clear Bx
      have ⟨Fc0, Fc1, Ff0, Ff1⟩ := F
      go_wp2_with fail
      refine (H3 _).mono ?_
      rintro e v3 ⟨rfl, Bx⟩
      clear Fc0 Fc1 Ff0 Ff1
      replace F := F.kept Bx
      replace B := SK.below1 B Bx
      clear Bx
      have ⟨Fc0, Fc1, Ff0, Ff1⟩ := F
      go_wp2_with fail
      refine (H4 _).mono ?_
      rintro e v4 ⟨rfl, Bx⟩
      clear Fc0 Fc1 Ff0 Ff1
      replace F := F.kept Bx
      replace B := SK.below1 B Bx
      clear Bx
      have ⟨Fc0, Fc1, Ff0, Ff1⟩ := F
      go_wp2
      go_ret
      exact ⟨rfl, B⟩
  · go_enter Try.func8, Try.ntmps8
    go_wp2
    go_ret
    exact ⟨rfl, Below.refl _ _⟩

set_option maxRecDepth 100000 in
theorem lifted (os : Os) (started : os.Started) (H : Type) (enc : TypeId × Value → H) :
    ReturnsInHanded {} Try.checked os 8 .any (Rows.fnFanHasSpec.pre6 enc Try.prog Try.f8 Rows.fnFanHasRow.domain false) (Rows.fnFanHasSpec.post enc Try.prog Try.f8 false true false false) := by
  refine returnsInHanded_of_change (C := Try.checked) own started (by kernel_rfl) Try.func8
    (ChangeSpec.witness6 (enc := enc) (C := Try.checked) false ⟨#[], #[.slice none 0 0], []⟩ 8 (by kernel_rfl) (by kernel_rfl) (by kernel_rfl) (by kernel_rfl)) ?_
  intro W base args ds gs before hval0 hW hcnd _
  have hval : ∀ (j : Nat) t v, Try.f8.params[j]? = some t → args[j]? = some v → Value.okWide Try.prog W .any base t v := hval0
  have hW' := hW
  obtain ⟨p, q, hA0, hV, rfl, hfz, hnd⟩ := hW
  have hA : DataW.TrodAll enc Try.prog W 0 (fun _ => true) true Try.f8.params.toList args.toList ds p := hA0
  rw [Try.params8] at hA hval
  obtain ⟨v0, vs0, d0, ds0, p0, q0, hargs, rfl, rfl, h0, r0⟩ := trodAll_cons hA
  obtain ⟨rfl, rfl, rfl⟩ := trodAll_nil r0
  obtain rfl : args = #[v0] := by cases args; simp_all
  obtain ⟨rfl, rfl⟩ := trodVars_none hV
  obtain ⟨a0, len0, cap0, rfl⟩ := okWide_slice Try.underlying22 (hval 0 22 v0 rfl rfl)
  have k0 := h0
  have lt0 : ∀ x ∈ p0, x.block < W.heap.size := by obtain ⟨m, hm⟩ := k0; exact DataW.trod_lt m _ _ _ hm
  obtain ⟨z0, w0⟩ : ∃ zs, IsRow .u8 W a0 len0 cap0 zs := by
    obtain ⟨fuel, hf⟩ := h0
    rcases open_ints Try.underlying22 Try.underlying5 (by kernel_rfl) hf with ⟨hcs, _⟩ | ⟨x, l, c, zs, hcs, _, hl, hm, hz, _, hcell, hwz⟩
    · simp [Value.cells] at hcs
      obtain ⟨rfl, rfl, rfl⟩ := hcs
      exact ⟨[], .inl ⟨rfl, rfl, rfl, rfl⟩⟩
    · simp [Value.cells] at hcs
      obtain ⟨rfl, rfl, rfl⟩ := hcs
      exact ⟨zs, .inr ⟨_, rfl, hl, hm, by simpa using hz, hcell, hwz⟩⟩
  clear hA0 hval0
  refine (walk a0 len0 cap0 z0 W w0).mono fun e W' ⟨he, bel⟩ => ?_
  subst he
  exact ⟨_, rfl, _, _, _, [], _, [], hW', trodAll_mk1 (shut_bool Try.underlying4 _), (trodAll_cons_mk (Below.trod laidOut (by kernel_rfl) (of_decide_eq_true (by kernel_rfl)) k0 bel lt0) trodAll_mk0), rfl, bel.frame _, fun h => by cases h⟩

theorem over : Rows.fnFanHasRow.holds Try.pinned (OpenSpec.ofChange Rows.fnFanHasSpec) :=
  OpenClaim.holds_of_wide 8 Try.f8 rfl rfl rfl rfl rfl rfl rfl ⟨rfl, rfl, rfl, rfl, rfl⟩ rfl rfl rfl rfl rfl (by kernel_rfl) Try.func8 (by kernel_rfl)
    (of_decide_eq_true (by kernel_rfl)) (by unfold Func.isWrapper; first | (rw [if_pos (by decide +kernel)]; kernel_rfl) | (rw [if_neg (by decide +kernel)]; exact ⟨rfl, rfl⟩))
    (fun os started H enc _ => lifted os started H enc)

theorem proved : Rows.FnFanHasSaid := over
end Go.Proofs.Ytgpnnaafialkjak.fnFanHas
namespace Go.Proofs.Ytgpnnaafialkjak
theorem fnFanHas_holds : Rows.FnFanHasSaid := fnFanHas.proved
#print axioms fnFanHas_holds
end Go.Proofs.Ytgpnnaafialkjak
