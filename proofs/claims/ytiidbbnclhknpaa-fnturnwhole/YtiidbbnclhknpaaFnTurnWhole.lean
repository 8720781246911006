/-
  For every code of bytes the law of TurnBy returns true: of a drawn way and a drawn angle the program's TurnBy is the specification's, and turned by nothing, or a quarter, the way is exact. No conditions.
-/
import Derived.Test.YtiidbbnclhknpaaRows
import Derived.WalkKit
import Derived.ProofKit
import Derived.OpenShut
import Derived.Test.YtiidbbnclhknpaaTurnImpl
import Derived.Test.YtiidbbnclhknpaaDrawTurn
import Derived.ShutString
import Derived.ChangeOld
import Derived.Below
namespace Go.Proofs.Ytiidbbnclhknpaa.fnTurnWhole
open Go.ChangeShapes Go.WideShapes Go.ChangeAt Go.RowKit
open Go.ChangeMaps (open_string shut_string)
set_option linter.unusedVariables false

theorem own : ownKnob Try.prog.godebug = none := by kernel_rfl
theorem laidOut : laidOutB Try.prog = true := by kernel_rfl

/-- WHAT THE WALK IS TOLD OF A SLICE OF INTEGERS THAT CAME IN: it is nil; or it leads to a row of 'cap' cells, the numbers 'zs' (the first 'len' are its elements, the rest its spare room), each fitting its kind. -/
def IsRow (k : IntKind) (w : World) (a : Option Addr) (len cap : Nat) (zs : List Int) : Prop :=
  (a = none ∧ len = 0 ∧ cap = 0 ∧ zs = []) ∨
  ∃ x, a = some x ∧ len ≤ cap ∧ cap ≤ maxLen ∧ zs.length = cap ∧ (∀ i, i < zs.length → w.cell? (x.add i) = some (.int k (zs.getD i 0))) ∧ ∀ n ∈ zs, (Lit.int k n).wf = true

theorem add_none (b off i : Nat) : (⟨b, off, none⟩ : Addr).add i = ⟨b, off + i, none⟩ := by
  unfold Addr.add
  split
  · rename_i h
    subst h
    rfl
  · rfl
theorem src {w : World} {a : Option Addr} {len cap : Nat} {zs : List Int} (h : IsRow .u8 w a len cap zs) : DK.Src w a len cap := by
  rcases h with ⟨rfl, rfl, rfl, rfl⟩ | ⟨x, rfl, hl, hm, hz, hcell, hwz⟩
  · exact ⟨by omega, by omega, .inl rfl⟩
  · unfold maxLen at hm
    refine ⟨hl, by omega, ?_⟩
    by_cases h0 : len = 0
    · exact .inl h0
    · obtain ⟨b, off, spot⟩ := x
      have hc := hcell 0 (by omega)
      have hspot : spot = none := by simpa [Addr.add] using World.cell?_spot hc
      subst hspot
      refine .inr ⟨b, off, rfl, fun i hi => ?_⟩
      have hi2 : i < zs.length := by omega
      have hb := bounds_u8 (hwz (zs.getD i 0) (by simp [List.getD, hi2]))
      have hci := hcell i hi2
      rw [add_none] at hci
      exact ⟨zs.getD i 0, hb.1, hb.2, hci⟩

set_option maxHeartbeats 8000000 in

theorem walk (a0 : Option Addr) (len0 cap0 : Nat) (z0 : List Int) (w : World) (w0 : IsRow .u8 w a0 len0 cap0 z0) :
    Calls Try.prog 4 #[.slice a0 len0 cap0] w fun e w' => e = .returned (.bool true) ∧ Below w.heap.size w w' := by
  by_cases hl : (len0 : Int) ≤ 1048576
  · go_enter Try.func4, Try.ntmps4
    go_wp2_with fail
    refine (DW.drawTurnBy_any _ _ _ _ (src w0)).mono ?_
    rintro e v1 ⟨u, r, a, rfl, u0, u1, r0, r1, a0, a1, Bx⟩
    have B := Bx
    clear Bx
    cases hx : SK.trB u r a
    · have F1 : ∀ w, Calls Try.prog 11 #[.int .i64 (u), .int .i64 (r), .int .i64 (a)] w fun e w' => e = .returned (.tuple #[SK.spV (0) (0), SK.spV (0) (0), .bool false]) ∧ Below w.heap.size w w' := fun w => by have := SK.sTurnBy_any (u) (r) (a) w; rw [hx] at this; simp only [SM.sel] at this; exact this
      have F2 : ∀ w, Calls Try.prog 12 #[.int .i64 (u), .int .i64 (r), .int .i64 (a)] w fun e w' => e = .returned (.tuple #[SK.spV (0) (0), SK.spV (0) (0), .bool false]) ∧ Below w.heap.size w w' := fun w => by have := SK.turnBy_any (u) (r) (a) w; rw [hx] at this; simp only [SM.sel] at this; exact this
      clear hx
      go_wp2_with fail
      refine (F1 _).mono ?_
      rintro e v2 ⟨rfl, Bx⟩
      replace B := SK.below1 B Bx
      clear Bx
      have S1 := SK.Box.new v2 (0) (0) 26
      replace B := SK.below1 B (SK.below_new v2 (.cells #[.int .i64 (0), .int .i64 (0)] 26))
      replace S1 := S1.alloc (.cells #[.int .i64 (0), .int .i64 (0)] 26)
      have S2 : SK.Box ((v2.alloc (.cells #[.int .i64 (0), .int .i64 (0)] 26)).alloc (.cells #[.int .i64 (0), .int .i64 (0)] 26)) (v2.heap.size + 1) (0) (0) := by simpa using SK.Box.new (v2.alloc (.cells #[.int .i64 (0), .int .i64 (0)] 26)) (0) (0) 26
      replace B := SK.below1 B (SK.below_new (v2.alloc (.cells #[.int .i64 (0), .int .i64 (0)] 26)) (.cells #[.int .i64 (0), .int .i64 (0)] 26))
      have ⟨S1c0, S1c1, S1f0, S1f1⟩ := S1
      have ⟨S2c0, S2c1, S2f0, S2f1⟩ := S2
      go_wp2_with fail
      refine (F2 _).mono ?_
      rintro e v3 ⟨rfl, Bx⟩
      clear S1c0 S1c1 S1f0 S1f1 S2c0 S2c1 S2f0 S2f1
      replace S1 := S1.kept Bx
      replace S2 := S2.kept Bx
      replace B := SK.below1 B Bx
      clear Bx
      replace S1 := S1.alloc (.cells #[.int .i64 (0), .int .i64 (0)] 26)
      replace S2 := S2.alloc (.cells #[.int .i64 (0), .int .i64 (0)] 26)
      have S3 := SK.Box.new v3 (0) (0) 26
      replace B := SK.below1 B (SK.below_new v3 (.cells #[.int .i64 (0), .int .i64 (0)] 26))
      replace S1 := S1.alloc (.cells #[.int .i64 (0), .int .i64 (0)] 26)
      replace S2 := S2.alloc (.cells #[.int .i64 (0), .int .i64 (0)] 26)
      replace S3 := S3.alloc (.cells #[.int .i64 (0), .int .i64 (0)] 26)
      have S4 : SK.Box ((v3.alloc (.cells #[.int .i64 (0), .int .i64 (0)] 26)).alloc (.cells #[.int .i64 (0), .int .i64 (0)] 26)) (v3.heap.size + 1) (0) (0) := by simpa using SK.Box.new (v3.alloc (.cells #[.int .i64 (0), .int .i64 (0)] 26)) (0) (0) 26
      replace B := SK.below1 B (SK.below_new (v3.alloc (.cells #[.int .i64 (0), .int .i64 (0)] 26)) (.cells #[.int .i64 (0), .int .i64 (0)] 26))
      have ⟨S1c0, S1c1, S1f0, S1f1⟩ := S1
      have ⟨S2c0, S2c1, S2f0, S2f1⟩ := S2
      have ⟨S3c0, S3c1, S3f0, S3f1⟩ := S3
      have ⟨S4c0, S4c1, S4f0, S4f1⟩ := S4
      go_wp2
      go_ret
      exact ⟨rfl, B⟩
    · obtain ⟨hw, ha⟩ := SK.tr_of hx
      obtain ⟨⟨a0, a1⟩, a2, a3⟩ := SW.wayB_of hw
      obtain ⟨a4, a5⟩ := SK.okA_of ha
      have hy : SK.trB u r 0 = true := SK.tr_mk hw (SK.okA_mk (by omega) (by omega))
      have hz : SK.trB u r 32400000 = true := SK.tr_mk hw (SK.okA_mk (by omega) (by omega))
      have F1 : ∀ w, Calls Try.prog 11 #[.int .i64 (u), .int .i64 (r), .int .i64 (a)] w fun e w' => e = .returned (.tuple #[SK.spV (SI.tyL u r a) (SI.tyH u r a), SK.spV (SI.txL u r a) (SI.txH u r a), .bool true]) ∧ Below w.heap.size w w' := fun w => by have := SK.sTurnBy_any (u) (r) (a) w; rw [hx] at this; simp only [SM.sel] at this; exact this
      have F2 : ∀ w, Calls Try.prog 12 #[.int .i64 (u), .int .i64 (r), .int .i64 (a)] w fun e w' => e = .returned (.tuple #[SK.spV (SI.tyL u r a) (SI.tyH u r a), SK.spV (SI.txL u r a) (SI.txH u r a), .bool true]) ∧ Below w.heap.size w w' := fun w => by have := SK.turnBy_any (u) (r) (a) w; rw [hx] at this; simp only [SM.sel] at this; exact this
      obtain ⟨n1, n2, n3, n4⟩ := SI.turn_nil u r
      obtain ⟨n5, n6, n7, n8⟩ := SI.turn_quart u r
      have F3 : ∀ w, Calls Try.prog 12 #[.int .i64 (u), .int .i64 (r), .int .i64 (0)] w fun e w' => e = .returned (.tuple #[SK.spV (u) (u), SK.spV (r) (r), .bool true]) ∧ Below w.heap.size w w' := fun w => by have := SK.turnBy_any (u) (r) (0) w; rw [hy] at this; simp only [SM.sel] at this; rw [n1, n2, n3, n4] at this; exact this
      have F4 : ∀ w, Calls Try.prog 12 #[.int .i64 (u), .int .i64 (r), .int .i64 (32400000)] w fun e w' => e = .returned (.tuple #[SK.spV (r) (r), SK.spV (-u) (-u), .bool true]) ∧ Below w.heap.size w w' := fun w => by have := SK.turnBy_any (u) (r) (32400000) w; rw [hz] at this; simp only [SM.sel] at this; rw [n5, n6, n7, n8] at this; exact this
      clear hx hy hz hw ha n1 n2 n3 n4 n5 n6 n7 n8
      generalize SI.tyL u r a = p at *
      generalize SI.tyH u r a = q at *
      generalize SI.txL u r a = g at *
      generalize SI.txH u r a = h at *
      go_wp2_with fail
      refine (F1 _).mono ?_
      rintro e v2 ⟨rfl, Bx⟩
      replace B := SK.below1 B Bx
      clear Bx
      have S1 := SK.Box.new v2 (p) (q) 26
      replace B := SK.below1 B (SK.below_new v2 (.cells #[.int .i64 (p), .int .i64 (q)] 26))
      replace S1 := S1.alloc (.cells #[.int .i64 (g), .int .i64 (h)] 26)
      have S2 : SK.Box ((v2.alloc (.cells #[.int .i64 (p), .int .i64 (q)] 26)).alloc (.cells #[.int .i64 (g), .int .i64 (h)] 26)) (v2.heap.size + 1) (g) (h) := by simpa using SK.Box.new (v2.alloc (.cells #[.int .i64 (p), .int .i64 (q)] 26)) (g) (h) 26
      replace B := SK.below1 B (SK.below_new (v2.alloc (.cells #[.int .i64 (p), .int .i64 (q)] 26)) (.cells #[.int .i64 (g), .int .i64 (h)] 26))
      have ⟨S1c0, S1c1, S1f0, S1f1⟩ := S1
      have ⟨S2c0, S2c1, S2f0, S2f1⟩ := S2
      go_wp2_with fail
      refine (F2 _).mono ?_
      rintro e v3 ⟨rfl, Bx⟩
      clear S1c0 S1c1 S1f0 S1f1 S2c0 S2c1 S2f0 S2f1
      replace S1 := S1.kept Bx
      replace S2 := S2.kept Bx
      replace B := SK.below1 B Bx
      clear Bx
      replace S1 := S1.alloc (.cells #[.int .i64 (p), .int .i64 (q)] 26)
      replace S2 := S2.alloc (.cells #[.int .i64 (p), .int .i64 (q)] 26)
      have S3 := SK.Box.new v3 (p) (q) 26
      replace B := SK.below1 B (SK.below_new v3 (.cells #[.int .i64 (p), .int .i64 (q)] 26))
      replace S1 := S1.alloc (.cells #[.int .i64 (g), .int .i64 (h)] 26)
      replace S2 := S2.alloc (.cells #[.int .i64 (g), .int .i64 (h)] 26)
      replace S3 := S3.alloc (.cells #[.int .i64 (g), .int .i64 (h)] 26)
      have S4 : SK.Box ((v3.alloc (.cells #[.int .i64 (p), .int .i64 (q)] 26)).alloc (.cells #[.int .i64 (g), .int .i64 (h)] 26)) (v3.heap.size + 1) (g) (h) := by simpa using SK.Box.new (v3.alloc (.cells #[.int .i64 (p), .int .i64 (q)] 26)) (g) (h) 26
      replace B := SK.below1 B (SK.below_new (v3.alloc (.cells #[.int .i64 (p), .int .i64 (q)] 26)) (.cells #[.int .i64 (g), .int .i64 (h)] 26))
      have ⟨S1c0, S1c1, S1f0, S1f1⟩ := S1
      have ⟨S2c0, S2c1, S2f0, S2f1⟩ := S2
      have ⟨S3c0, S3c1, S3f0, S3f1⟩ := S3
      have ⟨S4c0, S4c1, S4f0, S4f1⟩ := S4
      go_wp2_with fail
      refine (F3 _).mono ?_
      rintro e v4 ⟨rfl, Bx⟩
      clear S1c0 S1c1 S1f0 S1f1 S2c0 S2c1 S2f0 S2f1 S3c0 S3c1 S3f0 S3f1 S4c0 S4c1 S4f0 S4f1
      replace S1 := S1.kept Bx
      replace S2 := S2.kept Bx
      replace S3 := S3.kept Bx
      replace S4 := S4.kept Bx
      replace B := SK.below1 B Bx
      clear Bx
      replace S1 := S1.alloc (.cells #[.int .i64 (u), .int .i64 (u)] 26)
      replace S2 := S2.alloc (.cells #[.int .i64 (u), .int .i64 (u)] 26)
      replace S3 := S3.alloc (.cells #[.int .i64 (u), .int .i64 (u)] 26)
      replace S4 := S4.alloc (.cells #[.int .i64 (u), .int .i64 (u)] 26)
      have S5 := SK.Box.new v4 (u) (u) 26
      replace B := SK.below1 B (SK.below_new v4 (.cells #[.int .i64 (u), .int .i64 (u)] 26))
      replace S1 := S1.alloc (.cells #[.int .i64 (r), .int .i64 (r)] 26)
      replace S2 := S2.alloc (.cells #[.int .i64 (r), .int .i64 (r)] 26)
      replace S3 := S3.alloc (.cells #[.int .i64 (r), .int .i64 (r)] 26)
      replace S4 := S4.alloc (.cells #[.int .i64 (r), .int .i64 (r)] 26)
      replace S5 := S5.alloc (.cells #[.int .i64 (r), .int .i64 (r)] 26)
      have S6 : SK.Box ((v4.alloc (.cells #[.int .i64 (u), .int .i64 (u)] 26)).alloc (.cells #[.int .i64 (r), .int .i64 (r)] 26)) (v4.heap.size + 1) (r) (r) := by simpa using SK.Box.new (v4.alloc (.cells #[.int .i64 (u), .int .i64 (u)] 26)) (r) (r) 26
      replace B := SK.below1 B (SK.below_new (v4.alloc (.cells #[.int .i64 (u), .int .i64 (u)] 26)) (.cells #[.int .i64 (r), .int .i64 (r)] 26))
      have ⟨S1c0, S1c1, S1f0, S1f1⟩ := S1
      have ⟨S2c0, S2c1, S2f0, S2f1⟩ := S2
      have ⟨S3c0, S3c1, S3f0, S3f1⟩ := S3
      have ⟨S4c0, S4c1, S4f0, S4f1⟩ := S4
      have ⟨S5c0, S5c1, S5f0, S5f1⟩ := S5
      have ⟨S6c0, S6c1, S6f0, S6f1⟩ := S6
      go_wp2_with fail
      refine (F4 _).mono ?_
      rintro e v5 ⟨rfl, Bx⟩
      clear S1c0 S1c1 S1f0 S1f1 S2c0 S2c1 S2f0 S2f1 S3c0 S3c1 S3f0 S3f1 S4c0 S4c1 S4f0 S4f1 S5c0 S5c1 S5f0 S5f1 S6c0 S6c1 S6f0 S6f1
      replace S1 := S1.kept Bx
      replace S2 := S2.kept Bx
      replace S3 := S3.kept Bx
      replace S4 := S4.kept Bx
      replace S5 := S5.kept Bx
      replace S6 := S6.kept Bx
      replace B := SK.below1 B Bx
      clear Bx
      replace S1 := S1.alloc (.cells #[.int .i64 (r), .int .i64 (r)] 26)
      replace S2 := S2.alloc (.cells #[.int .i64 (r), .int .i64 (r)] 26)
      replace S3 := S3.alloc (.cells #[.int .i64 (r), .int .i64 (r)] 26)
      replace S4 := S4.alloc (.cells #[.int .i64 (r), .int .i64 (r)] 26)
      replace S5 := S5.alloc (.cells #[.int .i64 (r), .int .i64 (r)] 26)
      replace S6 := S6.alloc (.cells #[.int .i64 (r), .int .i64 (r)] 26)
      have S7 := SK.Box.new v5 (r) (r) 26
      replace B := SK.below1 B (SK.below_new v5 (.cells #[.int .i64 (r), .int .i64 (r)] 26))
      replace S1 := S1.alloc (.cells #[.int .i64 (-u), .int .i64 (-u)] 26)
      replace S2 := S2.alloc (.cells #[.int .i64 (-u), .int .i64 (-u)] 26)
      replace S3 := S3.alloc (.cells #[.int .i64 (-u), .int .i64 (-u)] 26)
      replace S4 := S4.alloc (.cells #[.int .i64 (-u), .int .i64 (-u)] 26)
      replace S5 := S5.alloc (.cells #[.int .i64 (-u), .int .i64 (-u)] 26)
      replace S6 := S6.alloc (.cells #[.int .i64 (-u), .int .i64 (-u)] 26)
      replace S7 := S7.alloc (.cells #[.int .i64 (-u), .int .i64 (-u)] 26)
      have S8 : SK.Box ((v5.alloc (.cells #[.int .i64 (r), .int .i64 (r)] 26)).alloc (.cells #[.int .i64 (-u), .int .i64 (-u)] 26)) (v5.heap.size + 1) (-u) (-u) := by simpa using SK.Box.new (v5.alloc (.cells #[.int .i64 (r), .int .i64 (r)] 26)) (-u) (-u) 26
      replace B := SK.below1 B (SK.below_new (v5.alloc (.cells #[.int .i64 (r), .int .i64 (r)] 26)) (.cells #[.int .i64 (-u), .int .i64 (-u)] 26))
      have ⟨S1c0, S1c1, S1f0, S1f1⟩ := S1
      have ⟨S2c0, S2c1, S2f0, S2f1⟩ := S2
      have ⟨S3c0, S3c1, S3f0, S3f1⟩ := S3
      have ⟨S4c0, S4c1, S4f0, S4f1⟩ := S4
      have ⟨S5c0, S5c1, S5f0, S5f1⟩ := S5
      have ⟨S6c0, S6c1, S6f0, S6f1⟩ := S6
      have ⟨S7c0, S7c1, S7f0, S7f1⟩ := S7
      have ⟨S8c0, S8c1, S8f0, S8f1⟩ := S8
      go_wp2
      go_ret
      exact ⟨rfl, B⟩
  · go_enter Try.func4, Try.ntmps4
    go_wp2
    go_ret
    exact ⟨rfl, Below.refl _ _⟩

set_option maxRecDepth 100000 in
theorem lifted (os : Os) (started : os.Started) (H : Type) (enc : TypeId × Value → H) :
    ReturnsInHanded {} Try.checked os 4 .any (Rows.fnTurnWholeSpec.pre6 enc Try.prog Try.f4 Rows.fnTurnWholeRow.domain false) (Rows.fnTurnWholeSpec.post enc Try.prog Try.f4 false true false false) := by
  refine returnsInHanded_of_change (C := Try.checked) own started (by kernel_rfl) Try.func4
    (ChangeSpec.witness6 (enc := enc) (C := Try.checked) false ⟨#[], #[.slice none 0 0], []⟩ 8 (by kernel_rfl) (by kernel_rfl) (by kernel_rfl) (by kernel_rfl)) ?_
  intro W base args ds gs before hval0 hW hcnd _
  have hval : ∀ (j : Nat) t v, Try.f4.params[j]? = some t → args[j]? = some v → Value.okWide Try.prog W .any base t v := hval0
  have hW' := hW
  obtain ⟨p, q, hA0, hV, rfl, hfz, hnd⟩ := hW
  have hA : DataW.TrodAll enc Try.prog W 0 (fun _ => true) true Try.f4.params.toList args.toList ds p := hA0
  rw [Try.params4] at hA hval
  obtain ⟨v0, vs0, d0, ds0, p0, q0, hargs, rfl, rfl, h0, r0⟩ := trodAll_cons hA
  obtain ⟨rfl, rfl, rfl⟩ := trodAll_nil r0
  obtain rfl : args = #[v0] := by cases args; simp_all
  obtain ⟨rfl, rfl⟩ := trodVars_none hV
  obtain ⟨a0, len0, cap0, rfl⟩ := okWide_slice Try.underlying22 (hval 0 22 v0 rfl rfl)
  have k0 := h0
  have lt0 : ∀ x ∈ p0, x.block < W.heap.size := by obtain ⟨m, hm⟩ := k0; exact DataW.trod_lt m _ _ _ hm
  obtain ⟨z0, w0⟩ : ∃ zs, IsRow .u8 W a0 len0 cap0 zs := by
    obtain ⟨fuel, hf⟩ := h0
    rcases open_ints Try.underlying22 Try.underlying5 (by kernel_rfl) hf with ⟨hcs, _⟩ | ⟨x, l, c, zs, hcs, _, hl, hm, hz, _, hcell, hwz⟩
    · simp [Value.cells] at hcs
      obtain ⟨rfl, rfl, rfl⟩ := hcs
      exact ⟨[], .inl ⟨rfl, rfl, rfl, rfl⟩⟩
    · simp [Value.cells] at hcs
      obtain ⟨rfl, rfl, rfl⟩ := hcs
      exact ⟨zs, .inr ⟨_, rfl, hl, hm, by simpa using hz, hcell, hwz⟩⟩
  clear hA0 hval0
  refine (walk a0 len0 cap0 z0 W w0).mono fun e W' ⟨he, bel⟩ => ?_
  subst he
  exact ⟨_, rfl, _, _, _, [], _, [], hW', trodAll_mk1 (shut_bool Try.underlying4 _), (trodAll_cons_mk (Below.trod laidOut (by kernel_rfl) (of_decide_eq_true (by kernel_rfl)) k0 bel lt0) trodAll_mk0), rfl, bel.frame _, fun h => by cases h⟩

theorem over : Rows.fnTurnWholeRow.holds Try.pinned (OpenSpec.ofChange Rows.fnTurnWholeSpec) :=
  OpenClaim.holds_of_wide 4 Try.f4 rfl rfl rfl rfl rfl rfl rfl ⟨rfl, rfl, rfl, rfl, rfl⟩ rfl rfl rfl rfl rfl (by kernel_rfl) Try.func4 (by kernel_rfl)
    (of_decide_eq_true (by kernel_rfl)) (by unfold Func.isWrapper; first | (rw [if_pos (by decide +kernel)]; kernel_rfl) | (rw [if_neg (by decide +kernel)]; exact ⟨rfl, rfl⟩))
    (fun os started H enc _ => lifted os started H enc)

theorem proved : Rows.FnTurnWholeSaid := over
end Go.Proofs.Ytiidbbnclhknpaa.fnTurnWhole
namespace Go.Proofs.Ytiidbbnclhknpaa
theorem fnTurnWhole_holds : Rows.FnTurnWholeSaid := fnTurnWhole.proved
#print axioms fnTurnWhole_holds
end Go.Proofs.Ytiidbbnclhknpaa
