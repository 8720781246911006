/-
  For every code of bytes the law of TurnLong returns true: of a drawn way the program's TurnLong is the specification's, the squares of its ends are around both squares, it is one part wide at most, and turned a quarter it is the same. No conditions.
-/
import Derived.Test.YtiidbbnclhknpaaRows
import Derived.WalkKit
import Derived.ProofKit
import Derived.OpenShut
import Derived.Test.YtiidbbnclhknpaaTurnRoot
import Derived.Test.YtiidbbnclhknpaaDrawTurn
import Derived.ShutString
import Derived.ChangeOld
import Derived.Below
namespace Go.Proofs.Ytiidbbnclhknpaa.fnTurnLong
open Go.ChangeShapes Go.WideShapes Go.ChangeAt Go.RowKit
open Go.ChangeMaps (open_string shut_string)
set_option linter.unusedVariables false

theorem own : ownKnob Try.prog.godebug = none := by kernel_rfl
theorem laidOut : laidOutB Try.prog = true := by kernel_rfl

/-- WHAT THE WALK IS TOLD OF A SLICE OF INTEGERS THAT CAME IN: it is nil; or it leads to a row of 'cap' cells, the numbers 'zs' (the first 'len' are its elements, the rest its spare room), each fitting its kind. -/
def IsRow (k : IntKind) (w : World) (a : Option Addr) (len cap : Nat) (zs : List Int) : Prop :=
  (a = none ∧ len = 0 ∧ cap = 0 ∧ zs = []) ∨
  ∃ x, a = some x ∧ len ≤ cap ∧ cap ≤ maxLen ∧ zs.length = cap ∧ (∀ i, i < zs.length → w.cell? (x.add i) = some (.int k (zs.getD i 0))) ∧ ∀ n ∈ zs, (Lit.int k n).wf = true

theorem add_none (b off i : Nat) : (⟨b, off, none⟩ : Addr).add i = ⟨b, off + i, none⟩ := by
  unfold Addr.add
  split
  · rename_i h
    subst h
    rfl
  · rfl
theorem src {w : World} {a : Option Addr} {len cap : Nat} {zs : List Int} (h : IsRow .u8 w a len cap zs) : DK.Src w a len cap := by
  rcases h with ⟨rfl, rfl, rfl, rfl⟩ | ⟨x, rfl, hl, hm, hz, hcell, hwz⟩
  · exact ⟨by omega, by omega, .inl rfl⟩
  · unfold maxLen at hm
    refine ⟨hl, by omega, ?_⟩
    by_cases h0 : len = 0
    · exact .inl h0
    · obtain ⟨b, off, spot⟩ := x
      have hc := hcell 0 (by omega)
      have hspot : spot = none := by simpa [Addr.add] using World.cell?_spot hc
      subst hspot
      refine .inr ⟨b, off, rfl, fun i hi => ?_⟩
      have hi2 : i < zs.length := by omega
      have hb := bounds_u8 (hwz (zs.getD i 0) (by simp [List.getD, hi2]))
      have hci := hcell i hi2
      rw [add_none] at hci
      exact ⟨zs.getD i 0, hb.1, hb.2, hci⟩

theorem long_facts {n : Int} (h0 : 0 ≤ n) (h1 : n ≤ 500000000000000000) : RM.root n * RM.root n ≤ n ∧ n ≤ SW.rup n * SW.rup n ∧ SW.rup n - RM.root n ≤ 1 ∧ RM.root n ≤ SW.rup n ∧ 0 ≤ RM.root n ∧ SW.rup n ≤ 1073741825 ∧ 0 ≤ RM.root n * RM.root n ∧ SW.rup n * SW.rup n ≤ 1152921506754330625 := by
  have r0 := RM.root_nonneg n
  have r1 := RM.root_small h0 (by omega)
  obtain ⟨r2, r3⟩ := RM.root_sq h0
  have r4 : 0 ≤ RM.root n * RM.root n := Int.mul_nonneg r0 r0
  have e : SW.rup n = RM.root n ∨ SW.rup n = RM.root n + 1 := by unfold SW.rup; split <;> omega
  have f : n ≤ SW.rup n * SW.rup n := by
    unfold SW.rup
    split
    · omega
    · omega
  have g : SW.rup n * SW.rup n ≤ 1152921506754330625 := SM.mul_bd (x := SW.rup n) (y := SW.rup n) (A := 1073741825) (B := 1073741825) (by omega) (by omega) (by omega) (by omega) |>.2
  exact ⟨r2, f, by omega, by omega, r0, by omega, r4, g⟩
set_option maxHeartbeats 8000000 in

theorem walk (a0 : Option Addr) (len0 cap0 : Nat) (z0 : List Int) (w : World) (w0 : IsRow .u8 w a0 len0 cap0 z0) :
    Calls Try.prog 3 #[.slice a0 len0 cap0] w fun e w' => e = .returned (.bool true) ∧ Below w.heap.size w w' := by
  by_cases hl : (len0 : Int) ≤ 1048576
  · go_enter Try.func3, Try.ntmps3
    go_wp2_with fail
    refine (DW.drawTurnLong_any _ _ _ _ (src w0)).mono ?_
    rintro e v1 ⟨u, r, rfl, u0, u1, r0, r1, Bx⟩
    have B := Bx
    clear Bx
    cases hx : SW.wayB u r
    · have F1 : ∀ w, Calls Try.prog 8 #[.int .i64 (u), .int .i64 (r)] w fun e w' => e = .returned (.tuple #[SK.spV (0) (0), .bool false]) ∧ Below w.heap.size w w' := fun w => by have := SW.sTurnLong_any (u) (r) w; rw [hx] at this; simp only [SM.sel] at this; exact this
      have F2 : ∀ w, Calls Try.prog 9 #[.int .i64 (u), .int .i64 (r)] w fun e w' => e = .returned (.tuple #[SK.spV (0) (0), .bool false]) ∧ Below w.heap.size w w' := fun w => by have := SW.turnLong_any (u) (r) w; rw [hx] at this; simp only [SM.sel] at this; exact this
      clear hx
      go_wp2_with fail
      refine (F1 _).mono ?_
      rintro e v2 ⟨rfl, Bx⟩
      replace B := SK.below1 B Bx
      clear Bx
      have S1 := SK.Box.new v2 (0) (0) 26
      replace B := SK.below1 B (SK.below_new v2 (.cells #[.int .i64 (0), .int .i64 (0)] 26))
      have ⟨S1c0, S1c1, S1f0, S1f1⟩ := S1
      go_wp2_with fail
      refine (F2 _).mono ?_
      rintro e v3 ⟨rfl, Bx⟩
      clear S1c0 S1c1 S1f0 S1f1
      replace S1 := S1.kept Bx
      replace B := SK.below1 B Bx
      clear Bx
      replace S1 := S1.alloc (.cells #[.int .i64 (0), .int .i64 (0)] 26)
      have S2 := SK.Box.new v3 (0) (0) 26
      replace B := SK.below1 B (SK.below_new v3 (.cells #[.int .i64 (0), .int .i64 (0)] 26))
      have ⟨S1c0, S1c1, S1f0, S1f1⟩ := S1
      have ⟨S2c0, S2c1, S2f0, S2f1⟩ := S2
      go_wp2
      go_ret
      exact ⟨rfl, B⟩
    · obtain ⟨⟨a0, a1⟩, a2, a3⟩ := SW.wayB_of hx
      have hy : SW.wayB (-r) u = true := SW.wayB_mk ⟨⟨by omega, by omega⟩, by omega, by omega⟩
      have F1 : ∀ w, Calls Try.prog 8 #[.int .i64 (u), .int .i64 (r)] w fun e w' => e = .returned (.tuple #[SK.spV (RM.root (u * u + r * r)) (SW.rup (u * u + r * r)), .bool true]) ∧ Below w.heap.size w w' := fun w => by have := SW.sTurnLong_any (u) (r) w; rw [hx] at this; simp only [SM.sel] at this; exact this
      have F2 : ∀ w, Calls Try.prog 9 #[.int .i64 (u), .int .i64 (r)] w fun e w' => e = .returned (.tuple #[SK.spV (RM.root (u * u + r * r)) (SW.rup (u * u + r * r)), .bool true]) ∧ Below w.heap.size w w' := fun w => by have := SW.turnLong_any (u) (r) w; rw [hx] at this; simp only [SM.sel] at this; exact this
      have F3 : ∀ w, Calls Try.prog 9 #[.int .i64 (-r), .int .i64 (u)] w fun e w' => e = .returned (.tuple #[SK.spV (RM.root (u * u + r * r)) (SW.rup (u * u + r * r)), .bool true]) ∧ Below w.heap.size w w' := fun w => by have := SW.turnLong_any (-r) (u) w; rw [hy] at this; simp only [SM.sel] at this; rw [show -r * -r + u * u = u * u + r * r by rw [Int.neg_mul_neg, Int.add_comm]] at this; exact this
      obtain ⟨⟨m0, m1⟩, m2, m3⟩ := SW.sqs_bd (SW.wayB_of hx)
      obtain ⟨g1, g2, g3, g4, g5, g6, g7, g8⟩ := long_facts (n := u * u + r * r) (by omega) (by omega)
      clear hx hy
      generalize RM.root (u * u + r * r) = p at *
      generalize SW.rup (u * u + r * r) = q at *
      go_wp2_with fail
      refine (F1 _).mono ?_
      rintro e v2 ⟨rfl, Bx⟩
      replace B := SK.below1 B Bx
      clear Bx
      have S1 := SK.Box.new v2 (p) (q) 26
      replace B := SK.below1 B (SK.below_new v2 (.cells #[.int .i64 (p), .int .i64 (q)] 26))
      have ⟨S1c0, S1c1, S1f0, S1f1⟩ := S1
      go_wp2_with fail
      refine (F2 _).mono ?_
      rintro e v3 ⟨rfl, Bx⟩
      clear S1c0 S1c1 S1f0 S1f1
      replace S1 := S1.kept Bx
      replace B := SK.below1 B Bx
      clear Bx
      replace S1 := S1.alloc (.cells #[.int .i64 (p), .int .i64 (q)] 26)
      have S2 := SK.Box.new v3 (p) (q) 26
      replace B := SK.below1 B (SK.below_new v3 (.cells #[.int .i64 (p), .int .i64 (q)] 26))
      have ⟨S1c0, S1c1, S1f0, S1f1⟩ := S1
      have ⟨S2c0, S2c1, S2f0, S2f1⟩ := S2
      go_wp2_with fail
      refine (F3 _).mono ?_
      rintro e v4 ⟨rfl, Bx⟩
      clear S1c0 S1c1 S1f0 S1f1 S2c0 S2c1 S2f0 S2f1
      replace S1 := S1.kept Bx
      replace S2 := S2.kept Bx
      replace B := SK.below1 B Bx
      clear Bx
      replace S1 := S1.alloc (.cells #[.int .i64 (p), .int .i64 (q)] 26)
      replace S2 := S2.alloc (.cells #[.int .i64 (p), .int .i64 (q)] 26)
      have S3 := SK.Box.new v4 (p) (q) 26
      replace B := SK.below1 B (SK.below_new v4 (.cells #[.int .i64 (p), .int .i64 (q)] 26))
      have ⟨S1c0, S1c1, S1f0, S1f1⟩ := S1
      have ⟨S2c0, S2c1, S2f0, S2f1⟩ := S2
      have ⟨S3c0, S3c1, S3f0, S3f1⟩ := S3
      go_wp2
      go_ret
      exact ⟨rfl, B⟩
  · go_enter Try.func3, Try.ntmps3
    go_wp2
    go_ret
    exact ⟨rfl, Below.refl _ _⟩

set_option maxRecDepth 100000 in
theorem lifted (os : Os) (started : os.Started) (H : Type) (enc : TypeId × Value → H) :
    ReturnsInHanded {} Try.checked os 3 .any (Rows.fnTurnLongSpec.pre6 enc Try.prog Try.f3 Rows.fnTurnLongRow.domain false) (Rows.fnTurnLongSpec.post enc Try.prog Try.f3 false true false false) := by
  refine returnsInHanded_of_change (C := Try.checked) own started (by kernel_rfl) Try.func3
    (ChangeSpec.witness6 (enc := enc) (C := Try.checked) false ⟨#[], #[.slice none 0 0], []⟩ 8 (by kernel_rfl) (by kernel_rfl) (by kernel_rfl) (by kernel_rfl)) ?_
  intro W base args ds gs before hval0 hW hcnd _
  have hval : ∀ (j : Nat) t v, Try.f3.params[j]? = some t → args[j]? = some v → Value.okWide Try.prog W .any base t v := hval0
  have hW' := hW
  obtain ⟨p, q, hA0, hV, rfl, hfz, hnd⟩ := hW
  have hA : DataW.TrodAll enc Try.prog W 0 (fun _ => true) true Try.f3.params.toList args.toList ds p := hA0
  rw [Try.params3] at hA hval
  obtain ⟨v0, vs0, d0, ds0, p0, q0, hargs, rfl, rfl, h0, r0⟩ := trodAll_cons hA
  obtain ⟨rfl, rfl, rfl⟩ := trodAll_nil r0
  obtain rfl : args = #[v0] := by cases args; simp_all
  obtain ⟨rfl, rfl⟩ := trodVars_none hV
  obtain ⟨a0, len0, cap0, rfl⟩ := okWide_slice Try.underlying22 (hval 0 22 v0 rfl rfl)
  have k0 := h0
  have lt0 : ∀ x ∈ p0, x.block < W.heap.size := by obtain ⟨m, hm⟩ := k0; exact DataW.trod_lt m _ _ _ hm
  obtain ⟨z0, w0⟩ : ∃ zs, IsRow .u8 W a0 len0 cap0 zs := by
    obtain ⟨fuel, hf⟩ := h0
    rcases open_ints Try.underlying22 Try.underlying5 (by kernel_rfl) hf with ⟨hcs, _⟩ | ⟨x, l, c, zs, hcs, _, hl, hm, hz, _, hcell, hwz⟩
    · simp [Value.cells] at hcs
      obtain ⟨rfl, rfl, rfl⟩ := hcs
      exact ⟨[], .inl ⟨rfl, rfl, rfl, rfl⟩⟩
    · simp [Value.cells] at hcs
      obtain ⟨rfl, rfl, rfl⟩ := hcs
      exact ⟨zs, .inr ⟨_, rfl, hl, hm, by simpa using hz, hcell, hwz⟩⟩
  clear hA0 hval0
  refine (walk a0 len0 cap0 z0 W w0).mono fun e W' ⟨he, bel⟩ => ?_
  subst he
  exact ⟨_, rfl, _, _, _, [], _, [], hW', trodAll_mk1 (shut_bool Try.underlying4 _), (trodAll_cons_mk (Below.trod laidOut (by kernel_rfl) (of_decide_eq_true (by kernel_rfl)) k0 bel lt0) trodAll_mk0), rfl, bel.frame _, fun h => by cases h⟩

theorem over : Rows.fnTurnLongRow.holds Try.pinned (OpenSpec.ofChange Rows.fnTurnLongSpec) :=
  OpenClaim.holds_of_wide 3 Try.f3 rfl rfl rfl rfl rfl rfl rfl ⟨rfl, rfl, rfl, rfl, rfl⟩ rfl rfl rfl rfl rfl (by kernel_rfl) Try.func3 (by kernel_rfl)
    (of_decide_eq_true (by kernel_rfl)) (by unfold Func.isWrapper; first | (rw [if_pos (by decide +kernel)]; kernel_rfl) | (rw [if_neg (by decide +kernel)]; exact ⟨rfl, rfl⟩))
    (fun os started H enc _ => lifted os started H enc)

theorem proved : Rows.FnTurnLongSaid := over
end Go.Proofs.Ytiidbbnclhknpaa.fnTurnLong
namespace Go.Proofs.Ytiidbbnclhknpaa
theorem fnTurnLong_holds : Rows.FnTurnLongSaid := fnTurnLong.proved
#print axioms fnTurnLong_holds
end Go.Proofs.Ytiidbbnclhknpaa
