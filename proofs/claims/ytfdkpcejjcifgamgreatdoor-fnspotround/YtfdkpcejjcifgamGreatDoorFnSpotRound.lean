/-
  For every code of bytes the law of SpotRound returns true: of drawn places, drawn parts and a drawn way the program's SpotRound is the specification's, and what it tells is what both ends of the fan are rounded to. The package's variable errTooGreat is as the program's text lays it.
-/
import Derived.Test.YtfdkpcejjcifgamGreatDoorCards
import Derived.Test.YtfdkpcejjcifgamGreatDoorTie
import Derived.Test.YtfdkpcejjcifgamGreatDoorDoorKit
import Derived.WalkKit
import Derived.ProofKit
import Derived.OpenShut
import Derived.ShutString
import Derived.ChangeOld
import Derived.Below
import Derived.LaidMore
import Derived.Stop.Joined
import Derived.SevenTiedAt
import Derived.Test.YtfdkpcejjcifgamGreatDoorSpotMemoR
import Derived.Test.YtfdkpcejjcifgamGreatDoorDrawSpotR
namespace Go.Proofs.YtfdkpcejjcifgamGreatDoor.fnSpotRound
open Go.ChangeShapes Go.WideShapes Go.ChangeAt Go.RowKit Go.Sort
set_option linter.unusedVariables false

theorem own : ownKnob Tryz.prog.godebug = none := by kernel_rfl
theorem laidOut : laidOutB Tryz.prog = true := by kernel_rfl
/-- What the walk is told of a slice of bytes that came in. -/
def IsRow (k : IntKind) (w : World) (a : Option Addr) (len cap : Nat) (zs : List Int) : Prop :=
  (a = none ∧ len = 0 ∧ cap = 0 ∧ zs = []) ∨
  ∃ x, a = some x ∧ len ≤ cap ∧ cap ≤ maxLen ∧ zs.length = cap ∧ (∀ i, i < zs.length → w.cell? (x.add i) = some (.int k (zs.getD i 0))) ∧ ∀ n ∈ zs, (Lit.int k n).wf = true
theorem add_none (b off i : Nat) : (⟨b, off, none⟩ : Addr).add i = ⟨b, off + i, none⟩ := by
  unfold Addr.add
  split
  · rename_i h
    subst h
    rfl
  · rfl
theorem src {w : World} {a : Option Addr} {len cap : Nat} {zs : List Int} (h : IsRow .u8 w a len cap zs) : DK.Src w a len cap := by
  rcases h with ⟨rfl, rfl, rfl, rfl⟩ | ⟨x, rfl, hl, hm, hz, hcell, hwz⟩
  · exact ⟨by omega, by omega, .inl rfl⟩
  · unfold maxLen at hm
    refine ⟨hl, by omega, ?_⟩
    by_cases h0 : len = 0
    · exact .inl h0
    · obtain ⟨b, off, spot⟩ := x
      have hc := hcell 0 (by omega)
      have hspot : spot = none := by simpa [Addr.add] using World.cell?_spot hc
      subst hspot
      refine .inr ⟨b, off, rfl, fun i hi => ?_⟩
      have hi2 : i < zs.length := by omega
      have hb := bounds_u8 (hwz (zs.getD i 0) (by simp [List.getD, hi2]))
      have hci := hcell i hi2
      rw [add_none] at hci
      exact ⟨zs.getD i 0, hb.1, hb.2, hci⟩

theorem sround_key {a l b m p y : Int} (e : SK.srB a l b m p y = true) : (SK.okP a l && SK.okP b m) = true ∧ NM.roundB (SI.dsL a l b m) p y = true ∧ NM.roundV (SI.dsL a l b m) p y = SK.srV a l b m p y ∧ NM.roundB (SI.dsH a l b m) p y = true ∧ NM.roundV (SI.dsH a l b m) p y = SK.srV a l b m p y := by
  unfold SK.srB at e
  rw [Bool.and_eq_true] at e
  obtain ⟨h, e⟩ := e
  rw [SK.sr_yes h]
  have e' := e
  unfold SK.frB at e
  simp only [Bool.and_eq_true] at e
  obtain ⟨a, b, c⟩ := SK.okF_of e.1
  have q : 1 ≤ p ∧ p ≤ 129600000 := of_decide_eq_true e.2.1
  obtain ⟨s1, s2⟩ := SK.fr_sure (y := y) e.1 q.2
  rw [s1] at e'
  rw [s2]
  obtain ⟨r1, r2⟩ := SR.sure_all (x := SI.dsL _ _ _ _) e' (Int.le_refl _) b
  obtain ⟨r3, r4⟩ := SR.sure_all (x := SI.dsH _ _ _ _) e' b (Int.le_refl _)
  exact ⟨h, r1, r2, r3, r4⟩
set_option maxHeartbeats 8000000 in

set_option maxHeartbeats 8000000 in
theorem walk (a0 : Option Addr) (len0 cap0 : Nat) (z0 : List Int) (sa : Addr) (w : World) (w0 : IsRow .u8 w a0 len0 cap0 z0) (hs : SW.Sn sa w) :
    Calls Tryz.prog 3 #[.slice a0 len0 cap0] w fun e w' => e = .returned (.bool true) ∧ Below w.heap.size w w' := by
  by_cases hl : (len0 : Int) ≤ 1048576
  · go_enter Tryz.func3, Tryz.ntmps3
    go_wp2_with fail
    refine (DS.drawSpotRound_any _ _ _ _ (src w0)).mono ?_
    rintro e v1 ⟨a, l, b, m, pp, yy, rfl, a0, a1, l0, l1, b0, b1, m0, m1, p0, p1, y0, y1, Bx⟩
    have B := Bx
    replace hs := hs.kept Bx
    clear Bx
    have P := SK.Box.new v1 (a) (l) 24
    replace B := SK.below1 B (SK.below_new v1 (.cells #[.int .i64 (a), .int .i64 (l)] 24))
    replace hs := hs.alloc (.cells #[.int .i64 (a), .int .i64 (l)] 24)
    replace P := P.alloc (.cells #[.int .i64 (b), .int .i64 (m)] 24)
    have Q : SK.Box ((v1.alloc (.cells #[.int .i64 (a), .int .i64 (l)] 24)).alloc (.cells #[.int .i64 (b), .int .i64 (m)] 24)) (v1.heap.size + 1) (b) (m) := by simpa using SK.Box.new (v1.alloc (.cells #[.int .i64 (a), .int .i64 (l)] 24)) (b) (m) 24
    replace B := SK.below1 B (SK.below_new (v1.alloc (.cells #[.int .i64 (a), .int .i64 (l)] 24)) (.cells #[.int .i64 (b), .int .i64 (m)] 24))
    replace hs := hs.alloc (.cells #[.int .i64 (b), .int .i64 (m)] 24)
    cases ho : SK.srB a l b m pp yy
    · have F1 : ∀ w, Calls Tryz.prog 5 #[SK.spV (a) (l), SK.spV (b) (m), .int .i64 pp, .int .i64 yy] w fun e w' => e = .returned (.tuple #[.int .i64 0, .bool false]) ∧ Below w.heap.size w w' := fun w => by have := SK.sSpotRound_any a l b m pp yy w; rw [show SK.srV a l b m pp yy = 0 by unfold SK.srV; rw [ho]; rfl, ho] at this; exact this
      have F2 : ∀ w, SW.Sn sa w → Calls Tryz.prog 6 #[SK.spV (a) (l), SK.spV (b) (m), .int .i64 pp, .int .i64 yy] w fun e w' => e = .returned (.tuple #[.int .i64 0, .bool false]) ∧ Below w.heap.size w w' := fun w hs => by have := SK.spotRound_any a l b m pp yy sa w hs; rw [show SK.srV a l b m pp yy = 0 by unfold SK.srV; rw [ho]; rfl, ho] at this; exact this
      clear ho
      have ⟨Pc0, Pc1, Pf0, Pf1⟩ := P
      have ⟨Qc0, Qc1, Qf0, Qf1⟩ := Q
      go_wp2_with fail
      refine (F1 _).mono ?_
      rintro e v2 ⟨rfl, Bx⟩
      clear Pc0 Pc1 Pf0 Pf1 Qc0 Qc1 Qf0 Qf1
      replace P := P.kept Bx
      replace Q := Q.kept Bx
      replace B := SK.below1 B Bx
      replace hs := hs.kept Bx
      clear Bx
      have ⟨Pc0, Pc1, Pf0, Pf1⟩ := P
      have ⟨Qc0, Qc1, Qf0, Qf1⟩ := Q
      go_wp2_with fail
      refine (F2 _ hs).mono ?_
      rintro e v3 ⟨rfl, Bx⟩
      clear Pc0 Pc1 Pf0 Pf1 Qc0 Qc1 Qf0 Qf1
      replace P := P.kept Bx
      replace Q := Q.kept Bx
      replace B := SK.below1 B Bx
      replace hs := hs.kept Bx
      clear Bx
      have ⟨Pc0, Pc1, Pf0, Pf1⟩ := P
      have ⟨Qc0, Qc1, Qf0, Qf1⟩ := Q
      go_wp2
      go_ret
      exact ⟨rfl, B⟩
    · obtain ⟨n, hn⟩ : ∃ n, n = SK.srV a l b m pp yy := ⟨_, rfl⟩
      have F1 : ∀ w, Calls Tryz.prog 5 #[SK.spV (a) (l), SK.spV (b) (m), .int .i64 pp, .int .i64 yy] w fun e w' => e = .returned (.tuple #[.int .i64 n, .bool true]) ∧ Below w.heap.size w w' := fun w => by have := SK.sSpotRound_any a l b m pp yy w; rw [ho, ← hn] at this; exact this
      have F2 : ∀ w, SW.Sn sa w → Calls Tryz.prog 6 #[SK.spV (a) (l), SK.spV (b) (m), .int .i64 pp, .int .i64 yy] w fun e w' => e = .returned (.tuple #[.int .i64 n, .bool true]) ∧ Below w.heap.size w w' := fun w hs => by have := SK.spotRound_any a l b m pp yy sa w hs; rw [ho, ← hn] at this; exact this
      obtain ⟨hx, r0, r1, r2, r3⟩ := sround_key ho
      have F3 : ∀ w, SW.Sn sa w → Calls Tryz.prog 7 #[SK.spV (a) (l), SK.spV (b) (m)] w fun e w' => e = .returned (.tuple #[SK.spV (SI.dsL a l b m) (SI.dsH a l b m), .bool true]) ∧ Below w.heap.size w w' := fun w hs => by have := SK.spotDist_any (a) (l) (b) (m) sa w hs; rw [hx] at this; simp only [SM.sel] at this; exact this
      have F4 : ∀ w, Calls Tryz.prog 8 #[.int .i64 (SI.dsL a l b m), .int .i64 pp, .int .i64 yy] w fun e w' => e = .returned (.tuple #[.int .i64 n, .bool true]) ∧ Below w.heap.size w w' := fun w => by have := NW.numRound_any (SI.dsL a l b m) pp yy w; rw [r0, r1, ← hn] at this; exact this
      have F5 : ∀ w, Calls Tryz.prog 8 #[.int .i64 (SI.dsH a l b m), .int .i64 pp, .int .i64 yy] w fun e w' => e = .returned (.tuple #[.int .i64 n, .bool true]) ∧ Below w.heap.size w w' := fun w => by have := NW.numRound_any (SI.dsH a l b m) pp yy w; rw [r2, r3, ← hn] at this; exact this
      obtain ⟨d0, d1, d2⟩ := SI.ds_bd a l b m
      clear r0 r1 r2 r3 hn ho hx
      generalize SI.dsL a l b m = p at *
      generalize SI.dsH a l b m = q at *
      have ⟨Pc0, Pc1, Pf0, Pf1⟩ := P
      have ⟨Qc0, Qc1, Qf0, Qf1⟩ := Q
      go_wp2_with fail
      refine (F1 _).mono ?_
      rintro e v2 ⟨rfl, Bx⟩
      clear Pc0 Pc1 Pf0 Pf1 Qc0 Qc1 Qf0 Qf1
      replace P := P.kept Bx
      replace Q := Q.kept Bx
      replace B := SK.below1 B Bx
      replace hs := hs.kept Bx
      clear Bx
      have ⟨Pc0, Pc1, Pf0, Pf1⟩ := P
      have ⟨Qc0, Qc1, Qf0, Qf1⟩ := Q
      go_wp2_with fail
      refine (F2 _ hs).mono ?_
      rintro e v3 ⟨rfl, Bx⟩
      clear Pc0 Pc1 Pf0 Pf1 Qc0 Qc1 Qf0 Qf1
      replace P := P.kept Bx
      replace Q := Q.kept Bx
      replace B := SK.below1 B Bx
      replace hs := hs.kept Bx
      clear Bx
      have ⟨Pc0, Pc1, Pf0, Pf1⟩ := P
      have ⟨Qc0, Qc1, Qf0, Qf1⟩ := Q
      go_wp2_with fail
      refine (F3 _ hs).mono ?_
      rintro e v4 ⟨rfl, Bx⟩
      clear Pc0 Pc1 Pf0 Pf1 Qc0 Qc1 Qf0 Qf1
      replace P := P.kept Bx
      replace Q := Q.kept Bx
      replace B := SK.below1 B Bx
      replace hs := hs.kept Bx
      clear Bx
      replace P := P.alloc (.cells #[.int .i64 (p), .int .i64 (q)] 30)
      replace Q := Q.alloc (.cells #[.int .i64 (p), .int .i64 (q)] 30)
      have S1 := SK.Box.new v4 (p) (q) 30
      replace B := SK.below1 B (SK.below_new v4 (.cells #[.int .i64 (p), .int .i64 (q)] 30))
      replace hs := hs.alloc (.cells #[.int .i64 (p), .int .i64 (q)] 30)
      have ⟨Pc0, Pc1, Pf0, Pf1⟩ := P
      have ⟨Qc0, Qc1, Qf0, Qf1⟩ := Q
      have ⟨S1c0, S1c1, S1f0, S1f1⟩ := S1
      go_wp2_with fail
      refine (F4 _).mono ?_
      rintro e v5 ⟨rfl, Bx⟩
      clear Pc0 Pc1 Pf0 Pf1 Qc0 Qc1 Qf0 Qf1 S1c0 S1c1 S1f0 S1f1
      replace P := P.kept Bx
      replace Q := Q.kept Bx
      replace S1 := S1.kept Bx
      replace B := SK.below1 B Bx
      replace hs := hs.kept Bx
      clear Bx
      have ⟨Pc0, Pc1, Pf0, Pf1⟩ := P
      have ⟨Qc0, Qc1, Qf0, Qf1⟩ := Q
      have ⟨S1c0, S1c1, S1f0, S1f1⟩ := S1
      go_wp2_with fail
      refine (F5 _).mono ?_
      rintro e v6 ⟨rfl, Bx⟩
      clear Pc0 Pc1 Pf0 Pf1 Qc0 Qc1 Qf0 Qf1 S1c0 S1c1 S1f0 S1f1
      replace P := P.kept Bx
      replace Q := Q.kept Bx
      replace S1 := S1.kept Bx
      replace B := SK.below1 B Bx
      replace hs := hs.kept Bx
      clear Bx
      have ⟨Pc0, Pc1, Pf0, Pf1⟩ := P
      have ⟨Qc0, Qc1, Qf0, Qf1⟩ := Q
      have ⟨S1c0, S1c1, S1f0, S1f1⟩ := S1
      go_wp2
      go_ret
      exact ⟨rfl, B⟩
  · go_enter Tryz.func3, Tryz.ntmps3
    go_wp2
    go_ret
    exact ⟨rfl, Below.refl _ _⟩

set_option maxRecDepth 100000 in
theorem lifted (os : Os) (started : os.Started) (H : Type) (enc : TypeId × Value → H) :
    ReturnsInHanded {} Tryz.checked os 3 .any (fun w args => (Rows.fnSpotRoundSpec.pre enc Tryz.prog Tryz.f3 [] false w args ∧ laidMetH Tryz.prog DR.laid1 w) ∧ sizedMet enc Tryz.prog Tryz.f3 (OpenSpec.ofChange Rows.fnSpotRoundSpec) false w args)
      (Rows.fnSpotRoundSpec.post enc Tryz.prog Tryz.f3 false true false false) := by
  refine returnsInHanded_of_change_and (C := Tryz.checked) (X := fun w _ => laidMetH Tryz.prog DR.laid1 w) (fun _ _ _ hh h => h.of_heap hh) own started (by kernel_rfl) Tryz.func3
    (ChangeSpec.witness_shaped (enc := enc) (C := Tryz.checked) (os := os) (X := fun w _ => laidMetH Tryz.prog DR.laid1 w) false (World.doorLaid Tryz.prog 400 os) #[.slice none 0 0] 8 rfl (World.shaped_of_RefB (by kernel_rfl) (by kernel_rfl)) (by kernel_rfl) (by kernel_rfl) (by kernel_rfl) (DR.door_met os _)) ?_
  intro W base args ds gs before hval0 hW _ _ hL _
  have hval : ∀ (j : Nat) t v, Tryz.f3.params[j]? = some t → args[j]? = some v → Value.okWide Tryz.prog W .any base t v := hval0
  have hW' := hW
  obtain ⟨p, q, hA0, hV, rfl, hfz, hnd⟩ := hW
  have hA : DataW.TrodAll enc Tryz.prog W 0 (fun _ => true) true Tryz.f3.params.toList args.toList ds p := hA0
  rw [Tryz.params3] at hA hval
  obtain ⟨v0, vs0, d0, ds0, p0, q0, hargs0, rfl, rfl, h0, r0⟩ := trodAll_cons hA
  obtain ⟨rfl, rfl, rfl⟩ := trodAll_nil r0
  obtain rfl : args = #[v0] := by cases args; simp_all
  obtain ⟨sa, hv, hs⟩ := DR.of_laid hL
  obtain ⟨rfl, rfl⟩ := DataW.TrodVars.unique hV (DR.vars_read enc hv _)
  obtain ⟨a0, len0, cap0, rfl⟩ := okWide_slice Tryz.underlying22 (hval 0 22 v0 rfl rfl)
  have k0 := h0
  have lt0 : ∀ x ∈ p0, x.block < W.heap.size := by obtain ⟨m, hm⟩ := k0; exact DataW.trod_lt m _ _ _ hm
  obtain ⟨z0, w0⟩ : ∃ zs, IsRow .u8 W a0 len0 cap0 zs := by
    obtain ⟨fuel, hf⟩ := h0
    rcases open_ints Tryz.underlying22 Tryz.underlying5 (by kernel_rfl) hf with ⟨hcs, _⟩ | ⟨x, l, c, zs, hcs, _, hl, hm, hz, _, hcell, hwz⟩
    · simp [Value.cells] at hcs
      obtain ⟨rfl, rfl, rfl⟩ := hcs
      exact ⟨[], .inl ⟨rfl, rfl, rfl, rfl⟩⟩
    · simp [Value.cells] at hcs
      obtain ⟨rfl, rfl, rfl⟩ := hcs
      exact ⟨zs, .inr ⟨_, rfl, hl, hm, by simpa using hz, hcell, hwz⟩⟩
  clear hA0 hval0
  refine (walk a0 len0 cap0 z0 sa W w0 hs).mono fun e W' ⟨he, bel⟩ => ?_
  subst he
  exact ⟨_, rfl, _, _, _, [], _, [.cell 0 0], hW', trodAll_mk1 (shut_bool Tryz.underlying4 _), (trodAll_cons_mk (Below.trod laidOut (by kernel_rfl) (of_decide_eq_true (by kernel_rfl)) k0 bel lt0) trodAll_mk0), DR.vars_read enc (DR.var_below hv bel) _, bel.frame _, fun h => by cases h⟩

theorem said : Rows.FnSpotRoundSaid :=
  OpenClaim.holds_of_wide 3 Tryz.f3 rfl rfl rfl rfl rfl rfl rfl ⟨rfl, rfl, rfl, rfl, rfl⟩ rfl rfl rfl rfl rfl (by kernel_rfl) Tryz.func3 (by kernel_rfl)
    (of_decide_eq_true (by kernel_rfl)) (by unfold Func.isWrapper; first | (rw [if_pos (by decide +kernel)]; kernel_rfl) | (rw [if_neg (by decide +kernel)]; exact ⟨rfl, rfl⟩))
    (fun os started H enc _ => lifted os started H enc)

theorem plain (f : FuncId) (fn : Func) (hf : Tryz.pinned.checked.prog.funcNamed "loop.example/alidade/laws.FnSpotRound" = some f) (hfn : Tryz.pinned.checked.prog.funcs[f]? = some fn) :
    true = Tryz.pinned.checked.prog.looks [] ∧ ∀ (j : Nat) t, fn.params[j]? = some t → Tryz.pinned.checked.prog.wantsStandIn t = false := by
  obtain rfl : f = 3 := Option.some.inj ((show Tryz.prog.funcNamed "loop.example/alidade/laws.FnSpotRound" = some 3 by kernel_rfl).symm.trans hf) |>.symm
  obtain rfl : fn = Tryz.f3 := (Option.some.inj (Tryz.func3.symm.trans hfn)).symm
  refine ⟨by kernel_rfl, fun j t ht => ?_⟩
  rw [Tryz.params3] at ht
  have hm : t ∈ [22] := by
    have := Array.mem_of_getElem? ht
    simpa using this
  have hall : ([22].all fun u => !Tryz.prog.wantsStandIn u) = true := by kernel_rfl
  exact (show Tryz.prog.wantsStandIn t = false by simpa using List.all_eq_true.1 hall t hm)

theorem card : Rows.FnSpotRoundCardSaid :=
  Claim7.holds_tied_plain_at .later [] _ _ _ _ said (fun _ h => by cases h) (by kernel_rfl) (fun _ h => by cases h) fnSpotRound_row_tie rfl ⟨rfl, rfl⟩ (by kernel_rfl) rfl plain (by kernel_rfl)
end Go.Proofs.YtfdkpcejjcifgamGreatDoor.fnSpotRound
namespace Go.Proofs.YtfdkpcejjcifgamGreatDoor
theorem fnSpotRound_holds : Rows.FnSpotRoundCardSaid := fnSpotRound.card
#print axioms fnSpotRound_holds
end Go.Proofs.YtfdkpcejjcifgamGreatDoor
