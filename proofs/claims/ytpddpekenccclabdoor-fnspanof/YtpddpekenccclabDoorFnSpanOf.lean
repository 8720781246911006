/-
  For every code of bytes the law of SpanOf returns true: of the drawn number a/b the program's SpanOf is the specification's; where there is one, the number is in it, it is one part wide at most, ok, and of no part just if it is exact. The package's variable errTooGreat is as the program's text lays it.
-/
import Derived.Test.YtpddpekenccclabDoorCards
import Derived.Test.YtpddpekenccclabDoorTie
import Derived.Test.YtpddpekenccclabDoorDoorKit
import Derived.WalkKit
import Derived.ProofKit
import Derived.OpenShut
import Derived.ShutString
import Derived.ChangeOld
import Derived.Below
import Derived.LaidMore
import Derived.Stop.Joined
import Derived.SevenTiedAt
import Derived.Test.YtpddpekenccclabDoorDrawKit
import Derived.Test.YtpddpekenccclabDoorDrawWalks
import Derived.Test.YtpddpekenccclabDoorDrawSpan
import Derived.Test.YtpddpekenccclabDoorSpanWalks
namespace Go.Proofs.YtpddpekenccclabDoor.fnSpanOf
open Go.ChangeShapes Go.WideShapes Go.ChangeAt Go.RowKit Go.Sort
set_option linter.unusedVariables false

theorem own : ownKnob Tryd.prog.godebug = none := by kernel_rfl
theorem laidOut : laidOutB Tryd.prog = true := by kernel_rfl
/-- What the walk is told of a slice of bytes that came in. -/
def IsRow (k : IntKind) (w : World) (a : Option Addr) (len cap : Nat) (zs : List Int) : Prop :=
  (a = none ∧ len = 0 ∧ cap = 0 ∧ zs = []) ∨
  ∃ x, a = some x ∧ len ≤ cap ∧ cap ≤ maxLen ∧ zs.length = cap ∧ (∀ i, i < zs.length → w.cell? (x.add i) = some (.int k (zs.getD i 0))) ∧ ∀ n ∈ zs, (Lit.int k n).wf = true
theorem add_none (b off i : Nat) : (⟨b, off, none⟩ : Addr).add i = ⟨b, off + i, none⟩ := by
  unfold Addr.add
  split
  · rename_i h
    subst h
    rfl
  · rfl
theorem src {w : World} {a : Option Addr} {len cap : Nat} {zs : List Int} (h : IsRow .u8 w a len cap zs) : DK.Src w a len cap := by
  rcases h with ⟨rfl, rfl, rfl, rfl⟩ | ⟨x, rfl, hl, hm, hz, hcell, hwz⟩
  · exact ⟨by omega, by omega, .inl rfl⟩
  · unfold maxLen at hm
    refine ⟨hl, by omega, ?_⟩
    by_cases h0 : len = 0
    · exact .inl h0
    · obtain ⟨b, off, spot⟩ := x
      have hc := hcell 0 (by omega)
      have hspot : spot = none := by simpa [Addr.add] using World.cell?_spot hc
      subst hspot
      refine .inr ⟨b, off, rfl, fun i hi => ?_⟩
      have hi2 : i < zs.length := by omega
      have hb := bounds_u8 (hwz (zs.getD i 0) (by simp [List.getD, hi2]))
      have hci := hcell i hi2
      rw [add_none] at hci
      exact ⟨zs.getD i 0, hb.1, hb.2, hci⟩

theorem sOf_yes (x y : Int) (w : World) (h : SM.ofB x y = true) : Calls Tryd.prog 7 #[.int .i64 x, .int .i64 y] w fun e w' => e = .returned (.tuple #[SW.spV (SM.ofLo x y) (SM.ofHi x y), .bool true]) ∧ Below w.heap.size w w' := by
  have := SW.sSpanOf_any x y w
  rw [h] at this
  exact this
theorem sOf_no (x y : Int) (w : World) (h : SM.ofB x y = false) : Calls Tryd.prog 7 #[.int .i64 x, .int .i64 y] w fun e w' => e = .returned (.tuple #[SW.spV 0 0, .bool false]) ∧ Below w.heap.size w w' := by
  have := SW.sSpanOf_any x y w
  rw [h] at this
  exact this
theorem of_yes (x y : Int) (a : Addr) (w : World) (hs : SW.Sn a w) (h : SM.ofB x y = true) : Calls Tryd.prog 8 #[.int .i64 x, .int .i64 y] w fun e w' => e = .returned (.tuple #[SW.spV (SM.ofLo x y) (SM.ofHi x y), .bool true]) ∧ Below w.heap.size w w' := by
  have := SW.spanOf_any x y a w hs
  rw [h] at this
  exact this
theorem of_no (x y : Int) (a : Addr) (w : World) (hs : SW.Sn a w) (h : SM.ofB x y = false) : Calls Tryd.prog 8 #[.int .i64 x, .int .i64 y] w fun e w' => e = .returned (.tuple #[SW.spV 0 0, .bool false]) ∧ Below w.heap.size w w' := by
  have := SW.spanOf_any x y a w hs
  rw [h] at this
  exact this

set_option maxHeartbeats 8000000 in
theorem walk (a0 : Option Addr) (len0 cap0 : Nat) (z0 : List Int) (sa : Addr) (w : World) (w0 : IsRow .u8 w a0 len0 cap0 z0) (hs : SW.Sn sa w) :
    Calls Tryd.prog 3 #[.slice a0 len0 cap0] w fun e w' => e = .returned (.bool true) ∧ Below w.heap.size w w' := by
  by_cases hl : (len0 : Int) ≤ 1048576
  · go_enter Tryd.func3, Tryd.ntmps3
    go_wp2_with fail
    refine (DW.drawSpanOf_any _ _ _ _ (src w0)).mono ?_
    rintro e w1 ⟨x, y, rfl, x0, x1, y0, y1, B1⟩
    have hs1 := hs.kept B1
    cases hB : SM.ofB x y
    · go_wp2_with fail
      refine (sOf_no x y _ hB).mono ?_
      rintro e w2 ⟨rfl, B2⟩
      have hs2 := (hs1.kept B2).alloc (.cells #[.int .i64 0, .int .i64 0] 26)
      go_wp2_with fail
      refine (of_no x y sa _ hs2 hB).mono ?_
      rintro e w3 ⟨rfl, B3⟩
      have B := SW.below1 (SW.below1 (SW.below1 B1 B2) (SW.below_new w2 _)) B3
      obtain ⟨c0, c1, f0, f1⟩ := ((SW.Box.new w2 0 0 26).kept B3).alloc (.cells #[.int .i64 0, .int .i64 0] 26)
      clear B1 B2 B3
      go_wp2
      go_ret
      exact ⟨rfl, SW.below1 B (SW.below_new w3 _)⟩
    · obtain ⟨hr, ho⟩ := SM.of_ok hB
      have E1 := SM.of_has hB
      have E2 := (SM.of_wide hr).1
      have E3 := SM.of_exact hr
      obtain ⟨o1, o2, o3⟩ := SM.okS_of ho
      obtain ⟨r1, r2, r3, r4⟩ := SM.ratB_of hr
      have yz : ¬ y = 0 := by omega
      have u0 : IntKind.i64.wrap 0 = 0 := SW.wrap_id (by omega) (by omega)
      have u1 : IntKind.i64.wrap (x * 1000000000) = x * 1000000000 := SW.wrap_id (by omega) (by omega)
      have u2 : IntKind.i64.wrap (SM.ofHi x y - SM.ofLo x y) = SM.ofHi x y - SM.ofLo x y := SW.wrap_id (by omega) (by omega)
      rw [Int.mul_comm] at E3
      go_wp2_with fail
      refine (sOf_yes x y _ hB).mono ?_
      rintro e w2 ⟨rfl, B2⟩
      have hs2 := (hs1.kept B2).alloc (.cells #[.int .i64 (SM.ofLo x y), .int .i64 (SM.ofHi x y)] 26)
      go_wp2_with fail
      refine (of_yes x y sa _ hs2 hB).mono ?_
      rintro e w3 ⟨rfl, B3⟩
      have hs3 := (hs2.kept B3).alloc (.cells #[.int .i64 (SM.ofLo x y), .int .i64 (SM.ofHi x y)] 26)
      have B := SW.below1 (SW.below1 (SW.below1 (SW.below1 B1 B2) (SW.below_new w2 _)) B3) (SW.below_new w3 (.cells #[.int .i64 (SM.ofLo x y), .int .i64 (SM.ofHi x y)] 26))
      have X := ((SW.Box.new w2 (SM.ofLo x y) (SM.ofHi x y) 26).kept B3).alloc (.cells #[.int .i64 (SM.ofLo x y), .int .i64 (SM.ofHi x y)] 26)
      have Y := SW.Box.new w3 (SM.ofLo x y) (SM.ofHi x y) 26
      generalize SM.ofLo x y = lo at *
      generalize SM.ofHi x y = hi at *
      generalize hw4 : w3.alloc (.cells #[.int .i64 lo, .int .i64 hi] 26) = w4 at *
      have c1 : ∀ d os, Calls Tryd.prog 9 #[SW.spV lo hi, .int .i64 x, .int .i64 y] (grow (redrawn w4 d) os) fun e w'' => e = .returned (.bool true) ∧ ∃ p : Regrown, w'' = grow (redrawn w4 p.d) p.os := fun d os => Calls.regrown_of (E1 ▸ SW.spanHas_any lo hi x y sa _ (hs3.kept (below_regrown _ _ _)))
      have c2 : ∀ d os, Calls Tryd.prog 10 #[SW.spV lo hi] (grow (redrawn w4 d) os) fun e w'' => e = .returned (.bool true) ∧ ∃ p : Regrown, w'' = grow (redrawn w4 p.d) p.os := fun d os => Calls.regrown_of (ho ▸ SW.spanOk_any lo hi sa _ (hs3.kept (below_regrown _ _ _)))
      obtain ⟨a0, a1, a2, a3⟩ := X
      obtain ⟨b0, b1, b2, b3⟩ := Y
      have k0 := cell_regrown b0
      have k1 := cell_regrown b1
      clear B1 B2 B3 hs1 hs2
      by_cases q : hi = lo
      · have q2 : (x * 1000000000).tmod y = 0 := E3.1 q
        subst q
        clear E3
        go_wp2_with fail
        refine wp_region_quiet_below (by kernel_rfl) (by kernel_rfl) ?_
        repeat (quiet_step (first | exact c1 _ _ | exact c2 _ _))
        refine wpQuiet_nil ?_
        rintro _ ⟨p, rfl⟩
        go_wp2
        go_ret
        exact ⟨rfl, SW.below1 B (below_regrown _ _ _)⟩
      · have q2 : ¬ (x * 1000000000).tmod y = 0 := fun e => q (E3.2 e)
        have q3 : Hid ((hi == lo) = false) := NW.hide (by simpa using q)
        have q4 : Hid (((x * 1000000000).tmod y == 0) = false) := NW.hide (by simpa using q2)
        clear E3
        go_wp2_with fail
        refine wp_region_quiet_below (by kernel_rfl) (by kernel_rfl) ?_
        repeat (quiet_step (first | exact c1 _ _ | exact c2 _ _))
        refine wpQuiet_nil ?_
        rintro _ ⟨p, rfl⟩
        go_wp2
        go_ret
        exact ⟨NW.ret_bool (by rw [q3.out, q4.out]; rfl), SW.below1 B (below_regrown _ _ _)⟩
  · go_enter Tryd.func3, Tryd.ntmps3
    go_wp2
    go_ret
    exact ⟨rfl, Below.refl _ _⟩

set_option maxRecDepth 100000 in
theorem lifted (os : Os) (started : os.Started) (H : Type) (enc : TypeId × Value → H) :
    ReturnsInHanded {} Tryd.checked os 3 .any (fun w args => (Rows.fnSpanOfSpec.pre enc Tryd.prog Tryd.f3 [] false w args ∧ laidMetH Tryd.prog DR.laid1 w) ∧ sizedMet enc Tryd.prog Tryd.f3 (OpenSpec.ofChange Rows.fnSpanOfSpec) false w args)
      (Rows.fnSpanOfSpec.post enc Tryd.prog Tryd.f3 false true false false) := by
  refine returnsInHanded_of_change_and (C := Tryd.checked) (X := fun w _ => laidMetH Tryd.prog DR.laid1 w) (fun _ _ _ hh h => h.of_heap hh) own started (by kernel_rfl) Tryd.func3
    (ChangeSpec.witness_shaped (enc := enc) (C := Tryd.checked) (os := os) (X := fun w _ => laidMetH Tryd.prog DR.laid1 w) false (World.doorLaid Tryd.prog 400 os) #[.slice none 0 0] 8 rfl (World.shaped_of_RefB (by kernel_rfl) (by kernel_rfl)) (by kernel_rfl) (by kernel_rfl) (by kernel_rfl) (DR.door_met os _)) ?_
  intro W base args ds gs before hval0 hW _ _ hL _
  have hval : ∀ (j : Nat) t v, Tryd.f3.params[j]? = some t → args[j]? = some v → Value.okWide Tryd.prog W .any base t v := hval0
  have hW' := hW
  obtain ⟨p, q, hA0, hV, rfl, hfz, hnd⟩ := hW
  have hA : DataW.TrodAll enc Tryd.prog W 0 (fun _ => true) true Tryd.f3.params.toList args.toList ds p := hA0
  rw [Tryd.params3] at hA hval
  obtain ⟨v0, vs0, d0, ds0, p0, q0, hargs0, rfl, rfl, h0, r0⟩ := trodAll_cons hA
  obtain ⟨rfl, rfl, rfl⟩ := trodAll_nil r0
  obtain rfl : args = #[v0] := by cases args; simp_all
  obtain ⟨sa, hv, hs⟩ := DR.of_laid hL
  obtain ⟨rfl, rfl⟩ := DataW.TrodVars.unique hV (DR.vars_read enc hv _)
  obtain ⟨a0, len0, cap0, rfl⟩ := okWide_slice Tryd.underlying22 (hval 0 22 v0 rfl rfl)
  have k0 := h0
  have lt0 : ∀ x ∈ p0, x.block < W.heap.size := by obtain ⟨m, hm⟩ := k0; exact DataW.trod_lt m _ _ _ hm
  obtain ⟨z0, w0⟩ : ∃ zs, IsRow .u8 W a0 len0 cap0 zs := by
    obtain ⟨fuel, hf⟩ := h0
    rcases open_ints Tryd.underlying22 Tryd.underlying5 (by kernel_rfl) hf with ⟨hcs, _⟩ | ⟨x, l, c, zs, hcs, _, hl, hm, hz, _, hcell, hwz⟩
    · simp [Value.cells] at hcs
      obtain ⟨rfl, rfl, rfl⟩ := hcs
      exact ⟨[], .inl ⟨rfl, rfl, rfl, rfl⟩⟩
    · simp [Value.cells] at hcs
      obtain ⟨rfl, rfl, rfl⟩ := hcs
      exact ⟨zs, .inr ⟨_, rfl, hl, hm, by simpa using hz, hcell, hwz⟩⟩
  clear hA0 hval0
  refine (walk a0 len0 cap0 z0 sa W w0 hs).mono fun e W' ⟨he, bel⟩ => ?_
  subst he
  exact ⟨_, rfl, _, _, _, [], _, [.cell 0 0], hW', trodAll_mk1 (shut_bool Tryd.underlying4 _), (trodAll_cons_mk (Below.trod laidOut (by kernel_rfl) (of_decide_eq_true (by kernel_rfl)) k0 bel lt0) trodAll_mk0), DR.vars_read enc (DR.var_below hv bel) _, bel.frame _, fun h => by cases h⟩

theorem said : Rows.FnSpanOfSaid :=
  OpenClaim.holds_of_wide 3 Tryd.f3 rfl rfl rfl rfl rfl rfl rfl ⟨rfl, rfl, rfl, rfl, rfl⟩ rfl rfl rfl rfl rfl (by kernel_rfl) Tryd.func3 (by kernel_rfl)
    (of_decide_eq_true (by kernel_rfl)) (by unfold Func.isWrapper; first | (rw [if_pos (by decide +kernel)]; kernel_rfl) | (rw [if_neg (by decide +kernel)]; exact ⟨rfl, rfl⟩))
    (fun os started H enc _ => lifted os started H enc)

theorem plain (f : FuncId) (fn : Func) (hf : Tryd.pinned.checked.prog.funcNamed "loop.example/alidade/laws.FnSpanOf" = some f) (hfn : Tryd.pinned.checked.prog.funcs[f]? = some fn) :
    true = Tryd.pinned.checked.prog.looks [] ∧ ∀ (j : Nat) t, fn.params[j]? = some t → Tryd.pinned.checked.prog.wantsStandIn t = false := by
  obtain rfl : f = 3 := Option.some.inj ((show Tryd.prog.funcNamed "loop.example/alidade/laws.FnSpanOf" = some 3 by kernel_rfl).symm.trans hf) |>.symm
  obtain rfl : fn = Tryd.f3 := (Option.some.inj (Tryd.func3.symm.trans hfn)).symm
  refine ⟨by kernel_rfl, fun j t ht => ?_⟩
  rw [Tryd.params3] at ht
  have hm : t ∈ [22] := by
    have := Array.mem_of_getElem? ht
    simpa using this
  have hall : ([22].all fun u => !Tryd.prog.wantsStandIn u) = true := by kernel_rfl
  exact (show Tryd.prog.wantsStandIn t = false by simpa using List.all_eq_true.1 hall t hm)

theorem card : Rows.FnSpanOfCardSaid :=
  Claim7.holds_tied_plain_at .later [] _ _ _ _ said (fun _ h => by cases h) (by kernel_rfl) (fun _ h => by cases h) fnSpanOf_row_tie rfl ⟨rfl, rfl⟩ (by kernel_rfl) rfl plain (by kernel_rfl)
end Go.Proofs.YtpddpekenccclabDoor.fnSpanOf
namespace Go.Proofs.YtpddpekenccclabDoor
theorem fnSpanOf_holds : Rows.FnSpanOfCardSaid := fnSpanOf.card
#print axioms fnSpanOf_holds
end Go.Proofs.YtpddpekenccclabDoor
