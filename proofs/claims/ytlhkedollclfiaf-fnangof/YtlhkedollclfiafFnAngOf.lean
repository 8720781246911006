/-
  For every code of bytes the law of AngOf returns true: of an angle drawn by its parts the program's AngOf is the specification's, and AngParts of what it makes are these parts, at most a turn either way. No conditions.
-/
import Derived.Test.YtlhkedollclfiafRows
import Derived.WalkKit
import Derived.ProofKit
import Derived.OpenShut
import Derived.Test.YtlhkedollclfiafAngImpl
import Derived.Test.YtlhkedollclfiafDrawAng
import Derived.Test.YtlhkedollclfiafDrawAng2
import Derived.ShutString
import Derived.ChangeOld
import Derived.Below
namespace Go.Proofs.Ytlhkedollclfiaf.fnAngOf
open Go.ChangeShapes Go.WideShapes Go.ChangeAt Go.RowKit
open Go.ChangeMaps (open_string shut_string)
set_option linter.unusedVariables false

theorem own : ownKnob Try.prog.godebug = none := by kernel_rfl
theorem laidOut : laidOutB Try.prog = true := by kernel_rfl

/-- WHAT THE WALK IS TOLD OF A SLICE OF INTEGERS THAT CAME IN: it is nil; or it leads to a row of 'cap' cells, the numbers 'zs' (the first 'len' are its elements, the rest its spare room), each fitting its kind. -/
def IsRow (k : IntKind) (w : World) (a : Option Addr) (len cap : Nat) (zs : List Int) : Prop :=
  (a = none ∧ len = 0 ∧ cap = 0 ∧ zs = []) ∨
  ∃ x, a = some x ∧ len ≤ cap ∧ cap ≤ maxLen ∧ zs.length = cap ∧ (∀ i, i < zs.length → w.cell? (x.add i) = some (.int k (zs.getD i 0))) ∧ ∀ n ∈ zs, (Lit.int k n).wf = true

theorem add_none (b off i : Nat) : (⟨b, off, none⟩ : Addr).add i = ⟨b, off + i, none⟩ := by
  unfold Addr.add
  split
  · rename_i h
    subst h
    rfl
  · rfl
theorem src {w : World} {a : Option Addr} {len cap : Nat} {zs : List Int} (h : IsRow .u8 w a len cap zs) : DK.Src w a len cap := by
  rcases h with ⟨rfl, rfl, rfl, rfl⟩ | ⟨x, rfl, hl, hm, hz, hcell, hwz⟩
  · exact ⟨by omega, by omega, .inl rfl⟩
  · unfold maxLen at hm
    refine ⟨hl, by omega, ?_⟩
    by_cases h0 : len = 0
    · exact .inl h0
    · obtain ⟨b, off, spot⟩ := x
      have hc := hcell 0 (by omega)
      have hspot : spot = none := by simpa [Addr.add] using World.cell?_spot hc
      subst hspot
      refine .inr ⟨b, off, rfl, fun i hi => ?_⟩
      have hi2 : i < zs.length := by omega
      have hb := bounds_u8 (hwz (zs.getD i 0) (by simp [List.getD, hi2]))
      have hci := hcell i hi2
      rw [add_none] at hci
      exact ⟨zs.getD i 0, hb.1, hb.2, hci⟩

set_option maxHeartbeats 8000000 in

theorem walk (a0 : Option Addr) (len0 cap0 : Nat) (z0 : List Int) (w : World) (w0 : IsRow .u8 w a0 len0 cap0 z0) :
    Calls Try.prog 7 #[.slice a0 len0 cap0] w fun e w' => e = .returned (.bool true) ∧ Below w.heap.size w w' := by
  by_cases hl : (len0 : Int) ≤ 1048576
  · go_enter Try.func7, Try.ntmps7
    go_wp2_with fail
    refine (DW.drawAngOf_any _ _ _ _ (src w0)).mono ?_
    rintro e wd ⟨⟨l, d, m, s, u, rfl⟩, B⟩
    have F := AW.Five.new wd l d m s u 32
    replace B := AW.below1 B (AW.below_new wd (.cells #[.bool l, .int .i64 d, .int .i64 m, .int .i64 s, .int .i64 u] 32))
    have S := fun w => AW.sOf_any l d m s u w
    have I := fun w => AW.of_any l d m s u w
    have G := F
    have ⟨c0, c1, c2, c3, c4⟩ := F
    go_wp2_with fail
    refine (S _).mono ?_
    rintro e w1 ⟨rfl, B1⟩
    clear c0 c1 c2 c3 c4
    replace G := G.kept B1
    replace B := AW.below1 B B1
    clear B1
    have ⟨c0, c1, c2, c3, c4⟩ := G
    go_wp2_with fail
    refine (I _).mono ?_
    rintro e w2 ⟨rfl, B2⟩
    clear c0 c1 c2 c3 c4
    replace G := G.kept B2
    replace B := AW.below1 B B2
    clear B2 S I
    cases h : AM.ofB l d m s u
    · have e := AM.of_no h
      rw [e]
      clear G F h e
      go_wp2
      go_ret
      exact ⟨rfl, B⟩
    · obtain ⟨p0, p1, p2, p3, p4, p5⟩ := AM.parts_of h
      have P := fun w => AW.parts_yes (AM.ofV l d m s u) w p0
      rw [p1, p2, p3, p4, p5] at P
      obtain ⟨t0, t1⟩ := AM.inT_of p0
      clear h p0 p1 p2 p3 p4 p5
      generalize AM.ofV l d m s u = x at *
      have ⟨c0, c1, c2, c3, c4⟩ := G
      go_wp2_with fail
      refine (P _).mono ?_
      rintro e w3 ⟨rfl, B3⟩
      clear c0 c1 c2 c3 c4
      replace G := G.kept B3
      replace B := AW.below1 B B3
      clear B3 P
      replace G := G.kept (AW.below_new w3 (.cells #[.bool l, .int .i64 d, .int .i64 m, .int .i64 s, .int .i64 u] 32))
      have F2 := AW.Five.new w3 l d m s u 32
      replace B := AW.below1 B (AW.below_new w3 (.cells #[.bool l, .int .i64 d, .int .i64 m, .int .i64 s, .int .i64 u] 32))
      have ⟨c0, c1, c2, c3, c4⟩ := G
      obtain ⟨b0, b1, b2, b3, b4⟩ := F2
      go_wp2
      go_ret
      exact ⟨rfl, B⟩
  · go_enter Try.func7, Try.ntmps7
    go_wp2
    go_ret
    exact ⟨rfl, Below.refl _ _⟩

set_option maxRecDepth 100000 in
theorem lifted (os : Os) (started : os.Started) (H : Type) (enc : TypeId × Value → H) :
    ReturnsInHanded {} Try.checked os 7 .any (Rows.fnAngOfSpec.pre6 enc Try.prog Try.f7 Rows.fnAngOfRow.domain false) (Rows.fnAngOfSpec.post enc Try.prog Try.f7 false true false false) := by
  refine returnsInHanded_of_change (C := Try.checked) own started (by kernel_rfl) Try.func7
    (ChangeSpec.witness6 (enc := enc) (C := Try.checked) false ⟨#[], #[.slice none 0 0], []⟩ 8 (by kernel_rfl) (by kernel_rfl) (by kernel_rfl) (by kernel_rfl)) ?_
  intro W base args ds gs before hval0 hW hcnd _
  have hval : ∀ (j : Nat) t v, Try.f7.params[j]? = some t → args[j]? = some v → Value.okWide Try.prog W .any base t v := hval0
  have hW' := hW
  obtain ⟨p, q, hA0, hV, rfl, hfz, hnd⟩ := hW
  have hA : DataW.TrodAll enc Try.prog W 0 (fun _ => true) true Try.f7.params.toList args.toList ds p := hA0
  rw [Try.params7] at hA hval
  obtain ⟨v0, vs0, d0, ds0, p0, q0, hargs, rfl, rfl, h0, r0⟩ := trodAll_cons hA
  obtain ⟨rfl, rfl, rfl⟩ := trodAll_nil r0
  obtain rfl : args = #[v0] := by cases args; simp_all
  obtain ⟨rfl, rfl⟩ := trodVars_none hV
  obtain ⟨a0, len0, cap0, rfl⟩ := okWide_slice Try.underlying22 (hval 0 22 v0 rfl rfl)
  have k0 := h0
  have lt0 : ∀ x ∈ p0, x.block < W.heap.size := by obtain ⟨m, hm⟩ := k0; exact DataW.trod_lt m _ _ _ hm
  obtain ⟨z0, w0⟩ : ∃ zs, IsRow .u8 W a0 len0 cap0 zs := by
    obtain ⟨fuel, hf⟩ := h0
    rcases open_ints Try.underlying22 Try.underlying5 (by kernel_rfl) hf with ⟨hcs, _⟩ | ⟨x, l, c, zs, hcs, _, hl, hm, hz, _, hcell, hwz⟩
    · simp [Value.cells] at hcs
      obtain ⟨rfl, rfl, rfl⟩ := hcs
      exact ⟨[], .inl ⟨rfl, rfl, rfl, rfl⟩⟩
    · simp [Value.cells] at hcs
      obtain ⟨rfl, rfl, rfl⟩ := hcs
      exact ⟨zs, .inr ⟨_, rfl, hl, hm, by simpa using hz, hcell, hwz⟩⟩
  clear hA0 hval0
  refine (walk a0 len0 cap0 z0 W w0).mono fun e W' ⟨he, bel⟩ => ?_
  subst he
  exact ⟨_, rfl, _, _, _, [], _, [], hW', trodAll_mk1 (shut_bool Try.underlying4 _), (trodAll_cons_mk (Below.trod laidOut (by kernel_rfl) (of_decide_eq_true (by kernel_rfl)) k0 bel lt0) trodAll_mk0), rfl, bel.frame _, fun h => by cases h⟩

theorem over : Rows.fnAngOfRow.holds Try.pinned (OpenSpec.ofChange Rows.fnAngOfSpec) :=
  OpenClaim.holds_of_wide 7 Try.f7 rfl rfl rfl rfl rfl rfl rfl ⟨rfl, rfl, rfl, rfl, rfl⟩ rfl rfl rfl rfl rfl (by kernel_rfl) Try.func7 (by kernel_rfl)
    (of_decide_eq_true (by kernel_rfl)) (by unfold Func.isWrapper; first | (rw [if_pos (by decide +kernel)]; kernel_rfl) | (rw [if_neg (by decide +kernel)]; exact ⟨rfl, rfl⟩))
    (fun os started H enc _ => lifted os started H enc)

theorem proved : Rows.FnAngOfSaid := over
end Go.Proofs.Ytlhkedollclfiaf.fnAngOf
namespace Go.Proofs.Ytlhkedollclfiaf
theorem fnAngOf_holds : Rows.FnAngOfSaid := fnAngOf.proved
#print axioms fnAngOf_holds
end Go.Proofs.Ytlhkedollclfiaf
