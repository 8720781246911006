/-
  For every two codes of bytes the law of FanRound returns true: of a drawn fan, drawn parts and a drawn way the program's FanRound is the specification's, and what it tells is what an angle of the fan is rounded to. The package's variable errTooGreat is as the program's text lays it.
-/
import Derived.Test.YtgpnnaafialkjalDoorCards
import Derived.Test.YtgpnnaafialkjalDoorTie
import Derived.Test.YtgpnnaafialkjalDoorDoorKit
import Derived.WalkKit
import Derived.ProofKit
import Derived.OpenShut
import Derived.ShutString
import Derived.ChangeOld
import Derived.Below
import Derived.LaidMore
import Derived.Stop.Joined
import Derived.SevenTiedAt
import Derived.Test.YtgpnnaafialkjalDoorFanImpl
import Derived.Test.YtgpnnaafialkjalDoorDrawFan2
namespace Go.Proofs.YtgpnnaafialkjalDoor.fnFanRound
open Go.ChangeShapes Go.WideShapes Go.ChangeAt Go.RowKit Go.Sort
set_option linter.unusedVariables false

theorem own : ownKnob Tryd.prog.godebug = none := by kernel_rfl
theorem laidOut : laidOutB Tryd.prog = true := by kernel_rfl
/-- What the walk is told of a slice of bytes that came in. -/
def IsRow (k : IntKind) (w : World) (a : Option Addr) (len cap : Nat) (zs : List Int) : Prop :=
  (a = none ∧ len = 0 ∧ cap = 0 ∧ zs = []) ∨
  ∃ x, a = some x ∧ len ≤ cap ∧ cap ≤ maxLen ∧ zs.length = cap ∧ (∀ i, i < zs.length → w.cell? (x.add i) = some (.int k (zs.getD i 0))) ∧ ∀ n ∈ zs, (Lit.int k n).wf = true
theorem add_none (b off i : Nat) : (⟨b, off, none⟩ : Addr).add i = ⟨b, off + i, none⟩ := by
  unfold Addr.add
  split
  · rename_i h
    subst h
    rfl
  · rfl
theorem src {w : World} {a : Option Addr} {len cap : Nat} {zs : List Int} (h : IsRow .u8 w a len cap zs) : DK.Src w a len cap := by
  rcases h with ⟨rfl, rfl, rfl, rfl⟩ | ⟨x, rfl, hl, hm, hz, hcell, hwz⟩
  · exact ⟨by omega, by omega, .inl rfl⟩
  · unfold maxLen at hm
    refine ⟨hl, by omega, ?_⟩
    by_cases h0 : len = 0
    · exact .inl h0
    · obtain ⟨b, off, spot⟩ := x
      have hc := hcell 0 (by omega)
      have hspot : spot = none := by simpa [Addr.add] using World.cell?_spot hc
      subst hspot
      refine .inr ⟨b, off, rfl, fun i hi => ?_⟩
      have hi2 : i < zs.length := by omega
      have hb := bounds_u8 (hwz (zs.getD i 0) (by simp [List.getD, hi2]))
      have hci := hcell i hi2
      rw [add_none] at hci
      exact ⟨zs.getD i 0, hb.1, hb.2, hci⟩

theorem round_key {l h p y : Int} {len1 : Nat} (e : SK.frB l h p y = true) (hm : (len1 : Int) ≤ 1048576) : SK.okF l h = true ∧ -129600000 ≤ l ∧ l ≤ h ∧ h ≤ 129600000 ∧ (0 ≤ (len1 : Int).tmod (h - l + 1) ∧ (len1 : Int).tmod (h - l + 1) ≤ h - l) ∧ NM.roundB (l + (len1 : Int).tmod (h - l + 1)) p y = true ∧ NM.roundV (l + (len1 : Int).tmod (h - l + 1)) p y = SK.frV l h p y := by
  have e' := e
  unfold SK.frB at e
  simp only [Bool.and_eq_true] at e
  obtain ⟨a, b, c⟩ := SK.okF_of e.1
  have q : 1 ≤ p ∧ p ≤ 129600000 := of_decide_eq_true e.2.1
  obtain ⟨s1, s2⟩ := SK.fr_sure (y := y) e.1 q.2
  rw [s1] at e'
  have m1 : 0 ≤ (len1 : Int).tmod (h - l + 1) := Int.tmod_nonneg _ (by omega)
  have m2 : (len1 : Int).tmod (h - l + 1) < h - l + 1 := Int.tmod_lt_of_pos _ (by omega)
  obtain ⟨r1, r2⟩ := SR.sure_all (x := l + (len1 : Int).tmod (h - l + 1)) e' (by omega) (by omega)
  rw [s2]
  exact ⟨e.1, a, b, c, ⟨m1, by omega⟩, r1, r2⟩
set_option maxHeartbeats 8000000 in

set_option maxHeartbeats 8000000 in
theorem walk (a0 : Option Addr) (len0 cap0 : Nat) (z0 : List Int) (a1 : Option Addr) (len1 cap1 : Nat) (z1 : List Int) (sa : Addr) (w : World) (w0 : IsRow .u8 w a0 len0 cap0 z0) (w1' : IsRow .u8 w a1 len1 cap1 z1) (hs : SW.Sn sa w) :
    Calls Tryd.prog 3 #[.slice a0 len0 cap0, .slice a1 len1 cap1] w fun e w' => e = .returned (.bool true) ∧ Below w.heap.size w w' := by
  by_cases hl : (len0 : Int) ≤ 1048576
  · by_cases hm : (len1 : Int) ≤ 1048576
    · go_enter Tryd.func3, Tryd.ntmps3
      go_wp2_with fail
      refine (DF.drawFanRound_any _ _ _ _ (src w0)).mono ?_
      rintro e d1 ⟨l, h, pp, yy, rfl, l0, l1, h0, h1, p0, p1, y0, y1, Bx⟩
      have B := Bx
      replace hs := hs.kept Bx
      clear Bx
      have F := SK.Box.new d1 (l) (h) 24
      replace B := SK.below1 B (SK.below_new d1 (.cells #[.int .i64 (l), .int .i64 (h)] 24))
      replace hs := hs.alloc (.cells #[.int .i64 (l), .int .i64 (h)] 24)
      cases ho : SK.frB l h pp yy
      · have F1 : ∀ w, Calls Tryd.prog 5 #[SK.spV l h, .int .i64 pp, .int .i64 yy] w fun e w' => e = .returned (.tuple #[.int .i64 0, .bool false]) ∧ Below w.heap.size w w' := fun w => by have := SK.sFanRound_any l h pp yy w; rw [SK.fr_no ho, ho] at this; exact this
        have F2 : ∀ w, SW.Sn sa w → Calls Tryd.prog 6 #[SK.spV l h, .int .i64 pp, .int .i64 yy] w fun e w' => e = .returned (.tuple #[.int .i64 0, .bool false]) ∧ Below w.heap.size w w' := fun w hs => by have := SK.fanRound_any l h pp yy sa w hs; rw [SK.fr_no ho, ho] at this; exact this
        clear ho
        have ⟨Fc0, Fc1, Ff0, Ff1⟩ := F
        go_wp2_with fail
        refine (F1 _).mono ?_
        rintro e v1 ⟨rfl, Bx⟩
        clear Fc0 Fc1 Ff0 Ff1
        replace F := F.kept Bx
        replace B := SK.below1 B Bx
        replace hs := hs.kept Bx
        clear Bx
        have ⟨Fc0, Fc1, Ff0, Ff1⟩ := F
        go_wp2_with fail
        refine (F2 _ hs).mono ?_
        rintro e v2 ⟨rfl, Bx⟩
        clear Fc0 Fc1 Ff0 Ff1
        replace F := F.kept Bx
        replace B := SK.below1 B Bx
        replace hs := hs.kept Bx
        clear Bx
        have ⟨Fc0, Fc1, Ff0, Ff1⟩ := F
        go_wp2
        go_ret
        exact ⟨rfl, B⟩
      · obtain ⟨n, hn⟩ : ∃ n, n = SK.frV l h pp yy := ⟨_, rfl⟩
        have F1 : ∀ w, Calls Tryd.prog 5 #[SK.spV l h, .int .i64 pp, .int .i64 yy] w fun e w' => e = .returned (.tuple #[.int .i64 n, .bool true]) ∧ Below w.heap.size w w' := fun w => by have := SK.sFanRound_any l h pp yy w; rw [ho, ← hn] at this; exact this
        have F2 : ∀ w, SW.Sn sa w → Calls Tryd.prog 6 #[SK.spV l h, .int .i64 pp, .int .i64 yy] w fun e w' => e = .returned (.tuple #[.int .i64 n, .bool true]) ∧ Below w.heap.size w w' := fun w hs => by have := SK.fanRound_any l h pp yy sa w hs; rw [ho, ← hn] at this; exact this
        obtain ⟨o, q0, q1, q2, ⟨r0, r1⟩, r2, r3⟩ := round_key ho hm
        have F3 : ∀ w, Calls Tryd.prog 7 #[.int .i64 (l + (len1 : Int).tmod (h - l + 1)), .int .i64 pp, .int .i64 yy] w fun e w' => e = .returned (.tuple #[.int .i64 n, .bool true]) ∧ Below w.heap.size w w' := fun w => by have := NW.numRound_any (l + (len1 : Int).tmod (h - l + 1)) pp yy w; rw [r2, r3, ← hn] at this; exact this
        clear r2 r3 hn ho o
        have ⟨Fc0, Fc1, Ff0, Ff1⟩ := F
        go_wp2_with fail
        refine (F1 _).mono ?_
        rintro e v1 ⟨rfl, Bx⟩
        clear Fc0 Fc1 Ff0 Ff1
        replace F := F.kept Bx
        replace B := SK.below1 B Bx
        replace hs := hs.kept Bx
        clear Bx
        have ⟨Fc0, Fc1, Ff0, Ff1⟩ := F
        go_wp2_with fail
        refine (F2 _ hs).mono ?_
        rintro e v2 ⟨rfl, Bx⟩
        clear Fc0 Fc1 Ff0 Ff1
        replace F := F.kept Bx
        replace B := SK.below1 B Bx
        replace hs := hs.kept Bx
        clear Bx
        go_wp2_with fail
        have k0 := cell_regrown F.c0
        have k1 := cell_regrown F.c1
        have e0 : ¬ h - l + 1 = 0 := by omega
        have e1 : IntKind.i64.wrap (h - l) = h - l := SK.wrap_id (by omega) (by omega)
        have e2 : IntKind.i64.wrap (h - l + 1) = h - l + 1 := SK.wrap_id (by omega) (by omega)
        have e3 : IntKind.i64.wrap ((len1 : Int).tmod (h - l + 1)) = (len1 : Int).tmod (h - l + 1) := SK.wrap_id (by omega) (by omega)
        have e4 : IntKind.i64.wrap (l + (len1 : Int).tmod (h - l + 1)) = l + (len1 : Int).tmod (h - l + 1) := SK.wrap_id (by omega) (by omega)
        have c1 : ∀ d os, Calls Tryd.prog 7 #[.int .i64 (l + (len1 : Int).tmod (h - l + 1)), .int .i64 pp, .int .i64 yy] (grow (redrawn v2 d) os) fun e w'' => e = .returned (.tuple #[.int .i64 n, .bool true]) ∧ ∃ p : Regrown, w'' = grow (redrawn v2 p.d) p.os := fun d os => Calls.regrown_of (F3 _)
        refine wp_region_quiet_below (by kernel_rfl) (by kernel_rfl) ?_
        repeat (quiet_step (fail))
        quiet_step (exact c1 _ _)
        repeat (quiet_step (fail))
        refine wpQuiet_nil ?_
        rintro _ ⟨pa, rfl⟩
        replace B := SK.below1 B (below_regrown v2 pa.d pa.os)
        clear k0 k1 c1 F F3
        go_wp2
        go_ret
        exact ⟨rfl, B⟩
    · go_enter Tryd.func3, Tryd.ntmps3
      go_wp2
      go_ret
      exact ⟨rfl, Below.refl _ _⟩
  · go_enter Tryd.func3, Tryd.ntmps3
    go_wp2
    go_ret
    exact ⟨rfl, Below.refl _ _⟩

set_option maxRecDepth 100000 in
theorem lifted (os : Os) (started : os.Started) (H : Type) (enc : TypeId × Value → H) :
    ReturnsInHanded {} Tryd.checked os 3 .any (fun w args => (Rows.fnFanRoundSpec.pre enc Tryd.prog Tryd.f3 [] false w args ∧ laidMetH Tryd.prog DR.laid1 w) ∧ sizedMet enc Tryd.prog Tryd.f3 (OpenSpec.ofChange Rows.fnFanRoundSpec) false w args)
      (Rows.fnFanRoundSpec.post enc Tryd.prog Tryd.f3 false true false false) := by
  refine returnsInHanded_of_change_and (C := Tryd.checked) (X := fun w _ => laidMetH Tryd.prog DR.laid1 w) (fun _ _ _ hh h => h.of_heap hh) own started (by kernel_rfl) Tryd.func3
    (ChangeSpec.witness_shaped (enc := enc) (C := Tryd.checked) (os := os) (X := fun w _ => laidMetH Tryd.prog DR.laid1 w) false (World.doorLaid Tryd.prog 400 os) #[.slice none 0 0, .slice none 0 0] 8 rfl (World.shaped_of_RefB (by kernel_rfl) (by kernel_rfl)) (by kernel_rfl) (by kernel_rfl) (by kernel_rfl) (DR.door_met os _)) ?_
  intro W base args ds gs before hval0 hW _ _ hL _
  have hval : ∀ (j : Nat) t v, Tryd.f3.params[j]? = some t → args[j]? = some v → Value.okWide Tryd.prog W .any base t v := hval0
  have hW' := hW
  obtain ⟨p, q, hA0, hV, rfl, hfz, hnd⟩ := hW
  have hA : DataW.TrodAll enc Tryd.prog W 0 (fun _ => true) true Tryd.f3.params.toList args.toList ds p := hA0
  rw [Tryd.params3] at hA hval
  obtain ⟨v0, vs0, d0, ds0, p0, q0, hargs0, rfl, rfl, h0, r0⟩ := trodAll_cons hA
  obtain ⟨v1, vs1, d1, ds1, p1, q1, hargs1, rfl, rfl, h1, r1⟩ := trodAll_cons r0
  obtain ⟨rfl, rfl, rfl⟩ := trodAll_nil r1
  obtain rfl : args = #[v0, v1] := by cases args; simp_all
  obtain ⟨sa, hv, hs⟩ := DR.of_laid hL
  obtain ⟨rfl, rfl⟩ := DataW.TrodVars.unique hV (DR.vars_read enc hv _)
  obtain ⟨a0, len0, cap0, rfl⟩ := okWide_slice Tryd.underlying22 (hval 0 22 v0 rfl rfl)
  have k0 := h0
  have lt0 : ∀ x ∈ p0, x.block < W.heap.size := by obtain ⟨m, hm⟩ := k0; exact DataW.trod_lt m _ _ _ hm
  obtain ⟨z0, w0⟩ : ∃ zs, IsRow .u8 W a0 len0 cap0 zs := by
    obtain ⟨fuel, hf⟩ := h0
    rcases open_ints Tryd.underlying22 Tryd.underlying5 (by kernel_rfl) hf with ⟨hcs, _⟩ | ⟨x, l, c, zs, hcs, _, hl, hm, hz, _, hcell, hwz⟩
    · simp [Value.cells] at hcs
      obtain ⟨rfl, rfl, rfl⟩ := hcs
      exact ⟨[], .inl ⟨rfl, rfl, rfl, rfl⟩⟩
    · simp [Value.cells] at hcs
      obtain ⟨rfl, rfl, rfl⟩ := hcs
      exact ⟨zs, .inr ⟨_, rfl, hl, hm, by simpa using hz, hcell, hwz⟩⟩
  obtain ⟨a1, len1, cap1, rfl⟩ := okWide_slice Tryd.underlying22 (hval 1 22 v1 rfl rfl)
  have k1 := h1
  have lt1 : ∀ x ∈ p1, x.block < W.heap.size := by obtain ⟨m, hm⟩ := k1; exact DataW.trod_lt m _ _ _ hm
  obtain ⟨z1, w1⟩ : ∃ zs, IsRow .u8 W a1 len1 cap1 zs := by
    obtain ⟨fuel, hf⟩ := h1
    rcases open_ints Tryd.underlying22 Tryd.underlying5 (by kernel_rfl) hf with ⟨hcs, _⟩ | ⟨x, l, c, zs, hcs, _, hl, hm, hz, _, hcell, hwz⟩
    · simp [Value.cells] at hcs
      obtain ⟨rfl, rfl, rfl⟩ := hcs
      exact ⟨[], .inl ⟨rfl, rfl, rfl, rfl⟩⟩
    · simp [Value.cells] at hcs
      obtain ⟨rfl, rfl, rfl⟩ := hcs
      exact ⟨zs, .inr ⟨_, rfl, hl, hm, by simpa using hz, hcell, hwz⟩⟩
  clear hA0 hval0
  refine (walk a0 len0 cap0 z0 a1 len1 cap1 z1 sa W w0 w1 hs).mono fun e W' ⟨he, bel⟩ => ?_
  subst he
  exact ⟨_, rfl, _, _, _, [], _, [.cell 0 0], hW', trodAll_mk1 (shut_bool Tryd.underlying4 _), (trodAll_cons_mk (Below.trod laidOut (by kernel_rfl) (of_decide_eq_true (by kernel_rfl)) k0 bel lt0) (trodAll_cons_mk (Below.trod laidOut (by kernel_rfl) (of_decide_eq_true (by kernel_rfl)) k1 bel lt1) trodAll_mk0)), DR.vars_read enc (DR.var_below hv bel) _, bel.frame _, fun h => by cases h⟩

theorem said : Rows.FnFanRoundSaid :=
  OpenClaim.holds_of_wide 3 Tryd.f3 rfl rfl rfl rfl rfl rfl rfl ⟨rfl, rfl, rfl, rfl, rfl⟩ rfl rfl rfl rfl rfl (by kernel_rfl) Tryd.func3 (by kernel_rfl)
    (of_decide_eq_true (by kernel_rfl)) (by unfold Func.isWrapper; first | (rw [if_pos (by decide +kernel)]; kernel_rfl) | (rw [if_neg (by decide +kernel)]; exact ⟨rfl, rfl⟩))
    (fun os started H enc _ => lifted os started H enc)

theorem plain (f : FuncId) (fn : Func) (hf : Tryd.pinned.checked.prog.funcNamed "loop.example/alidade/laws.FnFanRound" = some f) (hfn : Tryd.pinned.checked.prog.funcs[f]? = some fn) :
    true = Tryd.pinned.checked.prog.looks [] ∧ ∀ (j : Nat) t, fn.params[j]? = some t → Tryd.pinned.checked.prog.wantsStandIn t = false := by
  obtain rfl : f = 3 := Option.some.inj ((show Tryd.prog.funcNamed "loop.example/alidade/laws.FnFanRound" = some 3 by kernel_rfl).symm.trans hf) |>.symm
  obtain rfl : fn = Tryd.f3 := (Option.some.inj (Tryd.func3.symm.trans hfn)).symm
  refine ⟨by kernel_rfl, fun j t ht => ?_⟩
  rw [Tryd.params3] at ht
  have hm : t ∈ [22, 22] := by
    have := Array.mem_of_getElem? ht
    simpa using this
  have hall : ([22, 22].all fun u => !Tryd.prog.wantsStandIn u) = true := by kernel_rfl
  exact (show Tryd.prog.wantsStandIn t = false by simpa using List.all_eq_true.1 hall t hm)

theorem card : Rows.FnFanRoundCardSaid :=
  Claim7.holds_tied_plain_at .later [] _ _ _ _ said (fun _ h => by cases h) (by kernel_rfl) (fun _ h => by cases h) fnFanRound_row_tie rfl ⟨rfl, rfl⟩ (by kernel_rfl) rfl plain (by kernel_rfl)
end Go.Proofs.YtgpnnaafialkjalDoor.fnFanRound
namespace Go.Proofs.YtgpnnaafialkjalDoor
theorem fnFanRound_holds : Rows.FnFanRoundCardSaid := fnFanRound.card
#print axioms fnFanRound_holds
end Go.Proofs.YtgpnnaafialkjalDoor
