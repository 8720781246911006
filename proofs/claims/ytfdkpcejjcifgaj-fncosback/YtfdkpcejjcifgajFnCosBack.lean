/-
  For every code of bytes the law of CosBack returns true: of a drawn number it is what SineBack lacks to a quarter; at its ends the cosine is surely not less, and not more. No conditions.
-/
import Derived.Test.YtfdkpcejjcifgajRows
import Derived.WalkKit
import Derived.ProofKit
import Derived.OpenShut
import Derived.Test.YtfdkpcejjcifgajBackImpl3
import Derived.Test.YtfdkpcejjcifgajDrawBack
import Derived.ShutString
import Derived.ChangeOld
import Derived.Below
namespace Go.Proofs.Ytfdkpcejjcifgaj.fnCosBack
open Go.ChangeShapes Go.WideShapes Go.ChangeAt Go.RowKit
open Go.ChangeMaps (open_string shut_string)
set_option linter.unusedVariables false

theorem own : ownKnob Try.prog.godebug = none := by kernel_rfl
theorem laidOut : laidOutB Try.prog = true := by kernel_rfl

/-- WHAT THE WALK IS TOLD OF A SLICE OF INTEGERS THAT CAME IN: it is nil; or it leads to a row of 'cap' cells, the numbers 'zs' (the first 'len' are its elements, the rest its spare room), each fitting its kind. -/
def IsRow (k : IntKind) (w : World) (a : Option Addr) (len cap : Nat) (zs : List Int) : Prop :=
  (a = none ∧ len = 0 ∧ cap = 0 ∧ zs = []) ∨
  ∃ x, a = some x ∧ len ≤ cap ∧ cap ≤ maxLen ∧ zs.length = cap ∧ (∀ i, i < zs.length → w.cell? (x.add i) = some (.int k (zs.getD i 0))) ∧ ∀ n ∈ zs, (Lit.int k n).wf = true

theorem add_none (b off i : Nat) : (⟨b, off, none⟩ : Addr).add i = ⟨b, off + i, none⟩ := by
  unfold Addr.add
  split
  · rename_i h
    subst h
    rfl
  · rfl
theorem src {w : World} {a : Option Addr} {len cap : Nat} {zs : List Int} (h : IsRow .u8 w a len cap zs) : DK.Src w a len cap := by
  rcases h with ⟨rfl, rfl, rfl, rfl⟩ | ⟨x, rfl, hl, hm, hz, hcell, hwz⟩
  · exact ⟨by omega, by omega, .inl rfl⟩
  · unfold maxLen at hm
    refine ⟨hl, by omega, ?_⟩
    by_cases h0 : len = 0
    · exact .inl h0
    · obtain ⟨b, off, spot⟩ := x
      have hc := hcell 0 (by omega)
      have hspot : spot = none := by simpa [Addr.add] using World.cell?_spot hc
      subst hspot
      refine .inr ⟨b, off, rfl, fun i hi => ?_⟩
      have hi2 : i < zs.length := by omega
      have hb := bounds_u8 (hwz (zs.getD i 0) (by simp [List.getD, hi2]))
      have hci := hcell i hi2
      rw [add_none] at hci
      exact ⟨zs.getD i 0, hb.1, hb.2, hci⟩

set_option maxHeartbeats 8000000 in

theorem walk (a0 : Option Addr) (len0 cap0 : Nat) (z0 : List Int) (w : World) (w0 : IsRow .u8 w a0 len0 cap0 z0) :
    Calls Try.prog 8 #[.slice a0 len0 cap0] w fun e w' => e = .returned (.bool true) ∧ Below w.heap.size w w' := by
  by_cases hl : (len0 : Int) ≤ 1048576
  · go_enter Try.func8, Try.ntmps8
    go_wp2_with fail
    refine (DW.drawCosBack_any _ _ _ _ (src w0)).mono ?_
    rintro e v1 ⟨x, rfl, x0, x1, Bx⟩
    have B := Bx
    clear Bx
    cases hx : SK.okU x
    · have F1 : ∀ w, Calls Try.prog 20 #[.int .i64 (x)] w fun e w' => e = .returned (.tuple #[SK.spV (0) (0), .bool false]) ∧ Below w.heap.size w w' := fun w => by have := SK.sCosBack_any (x) w; rw [hx] at this; exact this
      have F2 : ∀ w, Calls Try.prog 21 #[.int .i64 (x)] w fun e w' => e = .returned (.tuple #[SK.spV (0) (0), .bool false]) ∧ Below w.heap.size w w' := fun w => by have := SK.cosBack_any (x) w; rw [hx] at this; exact this
      go_wp2_with fail
      refine (F1 _).mono ?_
      rintro e v2 ⟨rfl, Bx⟩
      replace B := SK.below1 B Bx
      clear Bx
      have X := SK.Box.new v2 (0) (0) 30
      replace B := SK.below1 B (SK.below_new v2 (.cells #[.int .i64 (0), .int .i64 (0)] 30))
      have ⟨Xc0, Xc1, Xf0, Xf1⟩ := X
      go_wp2_with fail
      refine (F2 _).mono ?_
      rintro e v3 ⟨rfl, Bx⟩
      clear Xc0 Xc1 Xf0 Xf1
      replace X := X.kept Bx
      replace B := SK.below1 B Bx
      clear Bx
      replace X := X.alloc (.cells #[.int .i64 (0), .int .i64 (0)] 30)
      have Y := SK.Box.new v3 (0) (0) 30
      replace B := SK.below1 B (SK.below_new v3 (.cells #[.int .i64 (0), .int .i64 (0)] 30))
      have ⟨Xc0, Xc1, Xf0, Xf1⟩ := X
      have ⟨Yc0, Yc1, Yf0, Yf1⟩ := Y
      go_wp2
      go_ret
      exact ⟨rfl, B⟩
    · have F1 : ∀ w, Calls Try.prog 20 #[.int .i64 (x)] w fun e w' => e = .returned (.tuple #[SK.spV (32400000 - SI.sbH x) (32400000 - SI.sbL x), .bool true]) ∧ Below w.heap.size w w' := fun w => by have := SK.sCosBack_any (x) w; rw [hx] at this; exact this
      have F2 : ∀ w, Calls Try.prog 21 #[.int .i64 (x)] w fun e w' => e = .returned (.tuple #[SK.spV (32400000 - SI.sbH x) (32400000 - SI.sbL x), .bool true]) ∧ Below w.heap.size w w' := fun w => by have := SK.cosBack_any (x) w; rw [hx] at this; exact this
      have F3 : ∀ w, Calls Try.prog 15 #[.int .i64 (x)] w fun e w' => e = .returned (.tuple #[SK.spV (SI.sbL (x)) (SI.sbH (x)), .bool true]) ∧ Below w.heap.size w w' := fun w => by have := SK.sineBack_any (x) w; rw [hx] at this; exact this
      obtain ⟨u0, u1⟩ := SK.okU_of hx
      obtain ⟨s1, s2, s3, s4, s5, s6⟩ := SI.sb_of u0 u1
      have h1 : SK.okA (32400000 - SI.sbH x) = true := SK.okA_mk (by omega) (by omega)
      have h2 : SK.okA (32400000 - SI.sbL x) = true := SK.okA_mk (by omega) (by omega)
      have F4 : ∀ w, Calls Try.prog 22 #[.int .i64 (32400000 - SI.sbH x)] w fun e w' => e = .returned (.tuple #[SK.spV (SI.siL (2 * SI.sbH x)) (SI.siH (2 * SI.sbH x)), .bool true]) ∧ Below w.heap.size w w' := fun w => by have := SK.cosOf_any (32400000 - SI.sbH x) w; rw [h1, (SI.cos_lack (SI.sbH x)).1, (SI.cos_lack (SI.sbH x)).2] at this; exact this
      have F5 : ∀ w, Calls Try.prog 22 #[.int .i64 (32400000 - SI.sbL x)] w fun e w' => e = .returned (.tuple #[SK.spV (SI.siL (2 * SI.sbL x)) (SI.siH (2 * SI.sbL x)), .bool true]) ∧ Below w.heap.size w w' := fun w => by have := SK.cosOf_any (32400000 - SI.sbL x) w; rw [h2, (SI.cos_lack (SI.sbL x)).1, (SI.cos_lack (SI.sbL x)).2] at this; exact this
      clear h1 h2 hx
      generalize SI.siL (2 * SI.sbL x) = a at *
      generalize SI.siH (2 * SI.sbL x) = b at *
      generalize SI.siL (2 * SI.sbH x) = c at *
      generalize SI.siH (2 * SI.sbH x) = d at *
      generalize SI.sbL x = p at *
      generalize SI.sbH x = q at *
      have e1 : 32400000 - q + q = 32400000 := by omega
      have e2 : 32400000 - p + p = 32400000 := by omega
      go_wp2_with fail
      refine (F1 _).mono ?_
      rintro e v2 ⟨rfl, Bx⟩
      replace B := SK.below1 B Bx
      clear Bx
      have X := SK.Box.new v2 (32400000 - q) (32400000 - p) 30
      replace B := SK.below1 B (SK.below_new v2 (.cells #[.int .i64 (32400000 - q), .int .i64 (32400000 - p)] 30))
      have ⟨Xc0, Xc1, Xf0, Xf1⟩ := X
      go_wp2_with fail
      refine (F2 _).mono ?_
      rintro e v3 ⟨rfl, Bx⟩
      clear Xc0 Xc1 Xf0 Xf1
      replace X := X.kept Bx
      replace B := SK.below1 B Bx
      clear Bx
      replace X := X.alloc (.cells #[.int .i64 (32400000 - q), .int .i64 (32400000 - p)] 30)
      have Y := SK.Box.new v3 (32400000 - q) (32400000 - p) 30
      replace B := SK.below1 B (SK.below_new v3 (.cells #[.int .i64 (32400000 - q), .int .i64 (32400000 - p)] 30))
      have ⟨Xc0, Xc1, Xf0, Xf1⟩ := X
      have ⟨Yc0, Yc1, Yf0, Yf1⟩ := Y
      go_wp2_with fail
      refine (F3 _).mono ?_
      rintro e v4 ⟨rfl, Bx⟩
      clear Xc0 Xc1 Xf0 Xf1 Yc0 Yc1 Yf0 Yf1
      replace X := X.kept Bx
      replace Y := Y.kept Bx
      replace B := SK.below1 B Bx
      clear Bx
      replace X := X.alloc (.cells #[.int .i64 (p), .int .i64 (q)] 30)
      replace Y := Y.alloc (.cells #[.int .i64 (p), .int .i64 (q)] 30)
      have Z := SK.Box.new v4 (p) (q) 30
      replace B := SK.below1 B (SK.below_new v4 (.cells #[.int .i64 (p), .int .i64 (q)] 30))
      have ⟨Xc0, Xc1, Xf0, Xf1⟩ := X
      have ⟨Yc0, Yc1, Yf0, Yf1⟩ := Y
      have ⟨Zc0, Zc1, Zf0, Zf1⟩ := Z
      go_wp2_with fail
      refine (F4 _).mono ?_
      rintro e v5 ⟨rfl, Bx⟩
      clear Xc0 Xc1 Xf0 Xf1 Yc0 Yc1 Yf0 Yf1 Zc0 Zc1 Zf0 Zf1
      replace X := X.kept Bx
      replace Y := Y.kept Bx
      replace Z := Z.kept Bx
      replace B := SK.below1 B Bx
      clear Bx
      replace X := X.alloc (.cells #[.int .i64 (c), .int .i64 (d)] 25)
      replace Y := Y.alloc (.cells #[.int .i64 (c), .int .i64 (d)] 25)
      replace Z := Z.alloc (.cells #[.int .i64 (c), .int .i64 (d)] 25)
      have U := SK.Box.new v5 (c) (d) 25
      replace B := SK.below1 B (SK.below_new v5 (.cells #[.int .i64 (c), .int .i64 (d)] 25))
      have ⟨Xc0, Xc1, Xf0, Xf1⟩ := X
      have ⟨Yc0, Yc1, Yf0, Yf1⟩ := Y
      have ⟨Zc0, Zc1, Zf0, Zf1⟩ := Z
      have ⟨Uc0, Uc1, Uf0, Uf1⟩ := U
      go_wp2_with fail
      refine (F5 _).mono ?_
      rintro e v6 ⟨rfl, Bx⟩
      clear Xc0 Xc1 Xf0 Xf1 Yc0 Yc1 Yf0 Yf1 Zc0 Zc1 Zf0 Zf1 Uc0 Uc1 Uf0 Uf1
      replace X := X.kept Bx
      replace Y := Y.kept Bx
      replace Z := Z.kept Bx
      replace U := U.kept Bx
      replace B := SK.below1 B Bx
      clear Bx
      replace X := X.alloc (.cells #[.int .i64 (a), .int .i64 (b)] 25)
      replace Y := Y.alloc (.cells #[.int .i64 (a), .int .i64 (b)] 25)
      replace Z := Z.alloc (.cells #[.int .i64 (a), .int .i64 (b)] 25)
      replace U := U.alloc (.cells #[.int .i64 (a), .int .i64 (b)] 25)
      have U2 := SK.Box.new v6 (a) (b) 25
      replace B := SK.below1 B (SK.below_new v6 (.cells #[.int .i64 (a), .int .i64 (b)] 25))
      have ⟨Xc0, Xc1, Xf0, Xf1⟩ := X
      have ⟨Yc0, Yc1, Yf0, Yf1⟩ := Y
      have ⟨Zc0, Zc1, Zf0, Zf1⟩ := Z
      have ⟨Uc0, Uc1, Uf0, Uf1⟩ := U
      have ⟨U2c0, U2c1, U2f0, U2f1⟩ := U2
      go_wp2
      go_ret
      exact ⟨rfl, B⟩
  · go_enter Try.func8, Try.ntmps8
    go_wp2
    go_ret
    exact ⟨rfl, Below.refl _ _⟩

set_option maxRecDepth 100000 in
theorem lifted (os : Os) (started : os.Started) (H : Type) (enc : TypeId × Value → H) :
    ReturnsInHanded {} Try.checked os 8 .any (Rows.fnCosBackSpec.pre6 enc Try.prog Try.f8 Rows.fnCosBackRow.domain false) (Rows.fnCosBackSpec.post enc Try.prog Try.f8 false true false false) := by
  refine returnsInHanded_of_change (C := Try.checked) own started (by kernel_rfl) Try.func8
    (ChangeSpec.witness6 (enc := enc) (C := Try.checked) false ⟨#[], #[.slice none 0 0], []⟩ 8 (by kernel_rfl) (by kernel_rfl) (by kernel_rfl) (by kernel_rfl)) ?_
  intro W base args ds gs before hval0 hW hcnd _
  have hval : ∀ (j : Nat) t v, Try.f8.params[j]? = some t → args[j]? = some v → Value.okWide Try.prog W .any base t v := hval0
  have hW' := hW
  obtain ⟨p, q, hA0, hV, rfl, hfz, hnd⟩ := hW
  have hA : DataW.TrodAll enc Try.prog W 0 (fun _ => true) true Try.f8.params.toList args.toList ds p := hA0
  rw [Try.params8] at hA hval
  obtain ⟨v0, vs0, d0, ds0, p0, q0, hargs, rfl, rfl, h0, r0⟩ := trodAll_cons hA
  obtain ⟨rfl, rfl, rfl⟩ := trodAll_nil r0
  obtain rfl : args = #[v0] := by cases args; simp_all
  obtain ⟨rfl, rfl⟩ := trodVars_none hV
  obtain ⟨a0, len0, cap0, rfl⟩ := okWide_slice Try.underlying22 (hval 0 22 v0 rfl rfl)
  have k0 := h0
  have lt0 : ∀ x ∈ p0, x.block < W.heap.size := by obtain ⟨m, hm⟩ := k0; exact DataW.trod_lt m _ _ _ hm
  obtain ⟨z0, w0⟩ : ∃ zs, IsRow .u8 W a0 len0 cap0 zs := by
    obtain ⟨fuel, hf⟩ := h0
    rcases open_ints Try.underlying22 Try.underlying5 (by kernel_rfl) hf with ⟨hcs, _⟩ | ⟨x, l, c, zs, hcs, _, hl, hm, hz, _, hcell, hwz⟩
    · simp [Value.cells] at hcs
      obtain ⟨rfl, rfl, rfl⟩ := hcs
      exact ⟨[], .inl ⟨rfl, rfl, rfl, rfl⟩⟩
    · simp [Value.cells] at hcs
      obtain ⟨rfl, rfl, rfl⟩ := hcs
      exact ⟨zs, .inr ⟨_, rfl, hl, hm, by simpa using hz, hcell, hwz⟩⟩
  clear hA0 hval0
  refine (walk a0 len0 cap0 z0 W w0).mono fun e W' ⟨he, bel⟩ => ?_
  subst he
  exact ⟨_, rfl, _, _, _, [], _, [], hW', trodAll_mk1 (shut_bool Try.underlying4 _), (trodAll_cons_mk (Below.trod laidOut (by kernel_rfl) (of_decide_eq_true (by kernel_rfl)) k0 bel lt0) trodAll_mk0), rfl, bel.frame _, fun h => by cases h⟩

theorem over : Rows.fnCosBackRow.holds Try.pinned (OpenSpec.ofChange Rows.fnCosBackSpec) :=
  OpenClaim.holds_of_wide 8 Try.f8 rfl rfl rfl rfl rfl rfl rfl ⟨rfl, rfl, rfl, rfl, rfl⟩ rfl rfl rfl rfl rfl (by kernel_rfl) Try.func8 (by kernel_rfl)
    (of_decide_eq_true (by kernel_rfl)) (by unfold Func.isWrapper; first | (rw [if_pos (by decide +kernel)]; kernel_rfl) | (rw [if_neg (by decide +kernel)]; exact ⟨rfl, rfl⟩))
    (fun os started H enc _ => lifted os started H enc)

theorem proved : Rows.FnCosBackSaid := over
end Go.Proofs.Ytfdkpcejjcifgaj.fnCosBack
namespace Go.Proofs.Ytfdkpcejjcifgaj
theorem fnCosBack_holds : Rows.FnCosBackSaid := fnCosBack.proved
#print axioms fnCosBack_holds
end Go.Proofs.Ytfdkpcejjcifgaj
