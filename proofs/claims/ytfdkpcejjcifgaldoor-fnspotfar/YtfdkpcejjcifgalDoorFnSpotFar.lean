/-
  For every code of bytes the law of SpotFar returns true: of a drawn place the program's SpotFar is the specification's, the opposite of the opposite is the place, and half a turn is in the fan between. The package's variable errTooGreat is as the program's text lays it.
-/
import Derived.Test.YtfdkpcejjcifgalDoorCards
import Derived.Test.YtfdkpcejjcifgalDoorTie
import Derived.Test.YtfdkpcejjcifgalDoorDoorKit
import Derived.WalkKit
import Derived.ProofKit
import Derived.OpenShut
import Derived.ShutString
import Derived.ChangeOld
import Derived.Below
import Derived.LaidMore
import Derived.Stop.Joined
import Derived.SevenTiedAt
import Derived.Test.YtfdkpcejjcifgalDoorSpotMemo3
import Derived.Test.YtfdkpcejjcifgalDoorDrawSpot3
import Derived.Test.YtfdkpcejjcifgalDoorSpotBook
import Derived.Test.YtfdkpcejjcifgalDoorFanWalks
namespace Go.Proofs.YtfdkpcejjcifgalDoor.fnSpotFar
open Go.ChangeShapes Go.WideShapes Go.ChangeAt Go.RowKit Go.Sort
set_option linter.unusedVariables false

theorem own : ownKnob Tryd.prog.godebug = none := by kernel_rfl
theorem laidOut : laidOutB Tryd.prog = true := by kernel_rfl
/-- What the walk is told of a slice of bytes that came in. -/
def IsRow (k : IntKind) (w : World) (a : Option Addr) (len cap : Nat) (zs : List Int) : Prop :=
  (a = none ∧ len = 0 ∧ cap = 0 ∧ zs = []) ∨
  ∃ x, a = some x ∧ len ≤ cap ∧ cap ≤ maxLen ∧ zs.length = cap ∧ (∀ i, i < zs.length → w.cell? (x.add i) = some (.int k (zs.getD i 0))) ∧ ∀ n ∈ zs, (Lit.int k n).wf = true
theorem add_none (b off i : Nat) : (⟨b, off, none⟩ : Addr).add i = ⟨b, off + i, none⟩ := by
  unfold Addr.add
  split
  · rename_i h
    subst h
    rfl
  · rfl
theorem src {w : World} {a : Option Addr} {len cap : Nat} {zs : List Int} (h : IsRow .u8 w a len cap zs) : DK.Src w a len cap := by
  rcases h with ⟨rfl, rfl, rfl, rfl⟩ | ⟨x, rfl, hl, hm, hz, hcell, hwz⟩
  · exact ⟨by omega, by omega, .inl rfl⟩
  · unfold maxLen at hm
    refine ⟨hl, by omega, ?_⟩
    by_cases h0 : len = 0
    · exact .inl h0
    · obtain ⟨b, off, spot⟩ := x
      have hc := hcell 0 (by omega)
      have hspot : spot = none := by simpa [Addr.add] using World.cell?_spot hc
      subst hspot
      refine .inr ⟨b, off, rfl, fun i hi => ?_⟩
      have hi2 : i < zs.length := by omega
      have hb := bounds_u8 (hwz (zs.getD i 0) (by simp [List.getD, hi2]))
      have hci := hcell i hi2
      rw [add_none] at hci
      exact ⟨zs.getD i 0, hb.1, hb.2, hci⟩

set_option maxHeartbeats 8000000 in

set_option maxHeartbeats 8000000 in
theorem walk (a0 : Option Addr) (len0 cap0 : Nat) (z0 : List Int) (sa : Addr) (w : World) (w0 : IsRow .u8 w a0 len0 cap0 z0) (hs : SW.Sn sa w) :
    Calls Tryd.prog 5 #[.slice a0 len0 cap0] w fun e w' => e = .returned (.bool true) ∧ Below w.heap.size w w' := by
  by_cases hl : (len0 : Int) ≤ 1048576
  · go_enter Tryd.func5, Tryd.ntmps5
    go_wp2_with fail
    refine (DS.drawSpotFar_any _ _ _ _ (src w0)).mono ?_
    rintro e v1 ⟨a, l, rfl, a0, a1, l0, l1, Bx⟩
    have B := Bx
    replace hs := hs.kept Bx
    clear Bx
    have P := SK.Box.new v1 (a) (l) 32
    replace B := SK.below1 B (SK.below_new v1 (.cells #[.int .i64 (a), .int .i64 (l)] 32))
    replace hs := hs.alloc (.cells #[.int .i64 (a), .int .i64 (l)] 32)
    cases hx : SK.okP a l
    · have F1 : ∀ w, Calls Tryd.prog 16 #[SK.spV (a) (l)] w fun e w' => e = .returned (.tuple #[SK.spV (0) (0), .bool false]) ∧ Below w.heap.size w w' := fun w => by have := SK.sSpotFar_any (a) (l) w; rw [hx] at this; simp only [SM.sel] at this; exact this
      have F2 : ∀ w, Calls Tryd.prog 17 #[SK.spV (a) (l)] w fun e w' => e = .returned (.tuple #[SK.spV (0) (0), .bool false]) ∧ Below w.heap.size w w' := fun w => by have := SK.spotFar_any (a) (l) w; rw [hx] at this; simp only [SM.sel] at this; exact this
      clear hx
      have ⟨Pc0, Pc1, Pf0, Pf1⟩ := P
      go_wp2_with fail
      refine (F1 _).mono ?_
      rintro e v2 ⟨rfl, Bx⟩
      clear Pc0 Pc1 Pf0 Pf1
      replace P := P.kept Bx
      replace B := SK.below1 B Bx
      replace hs := hs.kept Bx
      clear Bx
      replace P := P.alloc (.cells #[.int .i64 (0), .int .i64 (0)] 32)
      have S1 := SK.Box.new v2 (0) (0) 32
      replace B := SK.below1 B (SK.below_new v2 (.cells #[.int .i64 (0), .int .i64 (0)] 32))
      replace hs := hs.alloc (.cells #[.int .i64 (0), .int .i64 (0)] 32)
      have ⟨Pc0, Pc1, Pf0, Pf1⟩ := P
      have ⟨S1c0, S1c1, S1f0, S1f1⟩ := S1
      go_wp2_with fail
      refine (F2 _).mono ?_
      rintro e v3 ⟨rfl, Bx⟩
      clear Pc0 Pc1 Pf0 Pf1 S1c0 S1c1 S1f0 S1f1
      replace P := P.kept Bx
      replace S1 := S1.kept Bx
      replace B := SK.below1 B Bx
      replace hs := hs.kept Bx
      clear Bx
      replace P := P.alloc (.cells #[.int .i64 (0), .int .i64 (0)] 32)
      replace S1 := S1.alloc (.cells #[.int .i64 (0), .int .i64 (0)] 32)
      have S2 := SK.Box.new v3 (0) (0) 32
      replace B := SK.below1 B (SK.below_new v3 (.cells #[.int .i64 (0), .int .i64 (0)] 32))
      replace hs := hs.alloc (.cells #[.int .i64 (0), .int .i64 (0)] 32)
      have ⟨Pc0, Pc1, Pf0, Pf1⟩ := P
      have ⟨S1c0, S1c1, S1f0, S1f1⟩ := S1
      have ⟨S2c0, S2c1, S2f0, S2f1⟩ := S2
      go_wp2
      go_ret
      exact ⟨rfl, B⟩
    · obtain ⟨⟨pa0, pa1⟩, pl0, pl1⟩ := SK.okP_of hx
      have F1 : ∀ w, Calls Tryd.prog 16 #[SK.spV (a) (l)] w fun e w' => e = .returned (.tuple #[SK.spV (-a) (SK.farL l), .bool true]) ∧ Below w.heap.size w w' := fun w => by have := SK.sSpotFar_any (a) (l) w; rw [hx] at this; simp only [SM.sel] at this; exact this
      have F2 : ∀ w, Calls Tryd.prog 17 #[SK.spV (a) (l)] w fun e w' => e = .returned (.tuple #[SK.spV (-a) (SK.farL l), .bool true]) ∧ Below w.heap.size w w' := fun w => by have := SK.spotFar_any (a) (l) w; rw [hx] at this; simp only [SM.sel] at this; exact this
      have fb : 0 ≤ SK.farL l ∧ SK.farL l ≤ 129599999 ∧ (SK.farL l = l + 64800000 ∨ l = SK.farL l + 64800000) := by unfold SK.farL; split <;> omega
      obtain ⟨fb0, fb1, fb2⟩ := fb
      have ff : SK.farL (SK.farL l) = l := by unfold SK.farL; split <;> split <;> omega
      have ho : SK.okP (-a) (SK.farL l) = true := SK.okP_mk (by omega) (by omega) fb0 fb1
      have hz : (SK.okP a l && SK.okP (-a) (SK.farL l)) = true := by rw [hx, ho]; rfl
      have F3 : ∀ w, Calls Tryd.prog 17 #[SK.spV (-a) (SK.farL l)] w fun e w' => e = .returned (.tuple #[SK.spV (a) (l), .bool true]) ∧ Below w.heap.size w w' := fun w => by have := SK.spotFar_any (-a) (SK.farL l) w; rw [ho] at this; simp only [SM.sel] at this; rw [ff, Int.neg_neg] at this; exact this
      have F4 : ∀ w, SW.Sn sa w → Calls Tryd.prog 13 #[SK.spV (a) (l), SK.spV (-a) (SK.farL l)] w fun e w' => e = .returned (.tuple #[SK.spV (SI.dsL a l (-a) (SK.farL l)) (SI.dsH a l (-a) (SK.farL l)), .bool true]) ∧ Below w.heap.size w w' := fun w hs => by have := SK.spotDist_any (a) (l) (-a) (SK.farL l) sa w hs; rw [hz] at this; simp only [SM.sel] at this; exact this
      have F5 : ∀ w, Calls Tryd.prog 18 #[SK.spV (-a) (SK.farL l)] w fun e w' => e = .returned (.bool true) ∧ Below w.heap.size w w' := fun w => by have := SK.spotOk_any (-a) (SK.farL l) w; rw [ho] at this; exact this
      obtain ⟨k1, k2⟩ := SI.ds_far (a := a) (l := l) (m' := SK.farL l) ⟨pa0, pa1, pl0, by omega⟩ fb0 (by omega) fb2
      obtain ⟨d0, d1, d2⟩ := SI.ds_bd a l (-a) (SK.farL l)
      have F6 : ∀ w, Calls Tryd.prog 19 #[SK.spV (SI.dsL a l (-a) (SK.farL l)) (SI.dsH a l (-a) (SK.farL l)), .int .i64 64800000] w fun e w' => e = .returned (.bool true) ∧ Below w.heap.size w w' := fun w => by have := SK.fanHas_any (SI.dsL a l (-a) (SK.farL l)) (SI.dsH a l (-a) (SK.farL l)) 64800000 w; rw [SK.hasF_mk (SK.okF_mk (by omega) d1 (by omega)) k1 (by omega)] at this; exact this
      clear hx ho hz ff fb2 k2
      generalize SI.dsL a l (-a) (SK.farL l) = p at *
      generalize SI.dsH a l (-a) (SK.farL l) = q at *
      generalize SK.farL l = f at *
      have ⟨Pc0, Pc1, Pf0, Pf1⟩ := P
      go_wp2_with fail
      refine (F1 _).mono ?_
      rintro e v2 ⟨rfl, Bx⟩
      clear Pc0 Pc1 Pf0 Pf1
      replace P := P.kept Bx
      replace B := SK.below1 B Bx
      replace hs := hs.kept Bx
      clear Bx
      replace P := P.alloc (.cells #[.int .i64 (-a), .int .i64 (f)] 32)
      have S1 := SK.Box.new v2 (-a) (f) 32
      replace B := SK.below1 B (SK.below_new v2 (.cells #[.int .i64 (-a), .int .i64 (f)] 32))
      replace hs := hs.alloc (.cells #[.int .i64 (-a), .int .i64 (f)] 32)
      have ⟨Pc0, Pc1, Pf0, Pf1⟩ := P
      have ⟨S1c0, S1c1, S1f0, S1f1⟩ := S1
      go_wp2_with fail
      refine (F2 _).mono ?_
      rintro e v3 ⟨rfl, Bx⟩
      clear Pc0 Pc1 Pf0 Pf1 S1c0 S1c1 S1f0 S1f1
      replace P := P.kept Bx
      replace S1 := S1.kept Bx
      replace B := SK.below1 B Bx
      replace hs := hs.kept Bx
      clear Bx
      replace P := P.alloc (.cells #[.int .i64 (-a), .int .i64 (f)] 32)
      replace S1 := S1.alloc (.cells #[.int .i64 (-a), .int .i64 (f)] 32)
      have S2 := SK.Box.new v3 (-a) (f) 32
      replace B := SK.below1 B (SK.below_new v3 (.cells #[.int .i64 (-a), .int .i64 (f)] 32))
      replace hs := hs.alloc (.cells #[.int .i64 (-a), .int .i64 (f)] 32)
      have ⟨Pc0, Pc1, Pf0, Pf1⟩ := P
      have ⟨S1c0, S1c1, S1f0, S1f1⟩ := S1
      have ⟨S2c0, S2c1, S2f0, S2f1⟩ := S2
      go_wp2_with fail
      refine (F3 _).mono ?_
      rintro e v4 ⟨rfl, Bx⟩
      clear Pc0 Pc1 Pf0 Pf1 S1c0 S1c1 S1f0 S1f1 S2c0 S2c1 S2f0 S2f1
      replace P := P.kept Bx
      replace S1 := S1.kept Bx
      replace S2 := S2.kept Bx
      replace B := SK.below1 B Bx
      replace hs := hs.kept Bx
      clear Bx
      replace P := P.alloc (.cells #[.int .i64 (a), .int .i64 (l)] 32)
      replace S1 := S1.alloc (.cells #[.int .i64 (a), .int .i64 (l)] 32)
      replace S2 := S2.alloc (.cells #[.int .i64 (a), .int .i64 (l)] 32)
      have S3 := SK.Box.new v4 (a) (l) 32
      replace B := SK.below1 B (SK.below_new v4 (.cells #[.int .i64 (a), .int .i64 (l)] 32))
      replace hs := hs.alloc (.cells #[.int .i64 (a), .int .i64 (l)] 32)
      have ⟨Pc0, Pc1, Pf0, Pf1⟩ := P
      have ⟨S1c0, S1c1, S1f0, S1f1⟩ := S1
      have ⟨S2c0, S2c1, S2f0, S2f1⟩ := S2
      have ⟨S3c0, S3c1, S3f0, S3f1⟩ := S3
      go_wp2_with fail
      refine (F4 _ hs).mono ?_
      rintro e v5 ⟨rfl, Bx⟩
      clear Pc0 Pc1 Pf0 Pf1 S1c0 S1c1 S1f0 S1f1 S2c0 S2c1 S2f0 S2f1 S3c0 S3c1 S3f0 S3f1
      replace P := P.kept Bx
      replace S1 := S1.kept Bx
      replace S2 := S2.kept Bx
      replace S3 := S3.kept Bx
      replace B := SK.below1 B Bx
      replace hs := hs.kept Bx
      clear Bx
      replace P := P.alloc (.cells #[.int .i64 (p), .int .i64 (q)] 24)
      replace S1 := S1.alloc (.cells #[.int .i64 (p), .int .i64 (q)] 24)
      replace S2 := S2.alloc (.cells #[.int .i64 (p), .int .i64 (q)] 24)
      replace S3 := S3.alloc (.cells #[.int .i64 (p), .int .i64 (q)] 24)
      have S4 := SK.Box.new v5 (p) (q) 24
      replace B := SK.below1 B (SK.below_new v5 (.cells #[.int .i64 (p), .int .i64 (q)] 24))
      replace hs := hs.alloc (.cells #[.int .i64 (p), .int .i64 (q)] 24)
      have ⟨Pc0, Pc1, Pf0, Pf1⟩ := P
      have ⟨S1c0, S1c1, S1f0, S1f1⟩ := S1
      have ⟨S2c0, S2c1, S2f0, S2f1⟩ := S2
      have ⟨S3c0, S3c1, S3f0, S3f1⟩ := S3
      have ⟨S4c0, S4c1, S4f0, S4f1⟩ := S4
      go_wp2_with fail
      refine (F5 _).mono ?_
      rintro e v6 ⟨rfl, Bx⟩
      clear Pc0 Pc1 Pf0 Pf1 S1c0 S1c1 S1f0 S1f1 S2c0 S2c1 S2f0 S2f1 S3c0 S3c1 S3f0 S3f1 S4c0 S4c1 S4f0 S4f1
      replace P := P.kept Bx
      replace S1 := S1.kept Bx
      replace S2 := S2.kept Bx
      replace S3 := S3.kept Bx
      replace S4 := S4.kept Bx
      replace B := SK.below1 B Bx
      replace hs := hs.kept Bx
      clear Bx
      have ⟨Pc0, Pc1, Pf0, Pf1⟩ := P
      have ⟨S1c0, S1c1, S1f0, S1f1⟩ := S1
      have ⟨S2c0, S2c1, S2f0, S2f1⟩ := S2
      have ⟨S3c0, S3c1, S3f0, S3f1⟩ := S3
      have ⟨S4c0, S4c1, S4f0, S4f1⟩ := S4
      go_wp2_with fail
      refine (F6 _).mono ?_
      rintro e v7 ⟨rfl, Bx⟩
      clear Pc0 Pc1 Pf0 Pf1 S1c0 S1c1 S1f0 S1f1 S2c0 S2c1 S2f0 S2f1 S3c0 S3c1 S3f0 S3f1 S4c0 S4c1 S4f0 S4f1
      replace P := P.kept Bx
      replace S1 := S1.kept Bx
      replace S2 := S2.kept Bx
      replace S3 := S3.kept Bx
      replace S4 := S4.kept Bx
      replace B := SK.below1 B Bx
      replace hs := hs.kept Bx
      clear Bx
      have ⟨Pc0, Pc1, Pf0, Pf1⟩ := P
      have ⟨S1c0, S1c1, S1f0, S1f1⟩ := S1
      have ⟨S2c0, S2c1, S2f0, S2f1⟩ := S2
      have ⟨S3c0, S3c1, S3f0, S3f1⟩ := S3
      have ⟨S4c0, S4c1, S4f0, S4f1⟩ := S4
      go_wp2
      go_ret
      exact ⟨rfl, B⟩
  · go_enter Tryd.func5, Tryd.ntmps5
    go_wp2
    go_ret
    exact ⟨rfl, Below.refl _ _⟩

set_option maxRecDepth 100000 in
theorem lifted (os : Os) (started : os.Started) (H : Type) (enc : TypeId × Value → H) :
    ReturnsInHanded {} Tryd.checked os 5 .any (fun w args => (Rows.fnSpotFarSpec.pre enc Tryd.prog Tryd.f5 [] false w args ∧ laidMetH Tryd.prog DR.laid1 w) ∧ sizedMet enc Tryd.prog Tryd.f5 (OpenSpec.ofChange Rows.fnSpotFarSpec) false w args)
      (Rows.fnSpotFarSpec.post enc Tryd.prog Tryd.f5 false true false false) := by
  refine returnsInHanded_of_change_and (C := Tryd.checked) (X := fun w _ => laidMetH Tryd.prog DR.laid1 w) (fun _ _ _ hh h => h.of_heap hh) own started (by kernel_rfl) Tryd.func5
    (ChangeSpec.witness_shaped (enc := enc) (C := Tryd.checked) (os := os) (X := fun w _ => laidMetH Tryd.prog DR.laid1 w) false (World.doorLaid Tryd.prog 400 os) #[.slice none 0 0] 8 rfl (World.shaped_of_RefB (by kernel_rfl) (by kernel_rfl)) (by kernel_rfl) (by kernel_rfl) (by kernel_rfl) (DR.door_met os _)) ?_
  intro W base args ds gs before hval0 hW _ _ hL _
  have hval : ∀ (j : Nat) t v, Tryd.f5.params[j]? = some t → args[j]? = some v → Value.okWide Tryd.prog W .any base t v := hval0
  have hW' := hW
  obtain ⟨p, q, hA0, hV, rfl, hfz, hnd⟩ := hW
  have hA : DataW.TrodAll enc Tryd.prog W 0 (fun _ => true) true Tryd.f5.params.toList args.toList ds p := hA0
  rw [Tryd.params5] at hA hval
  obtain ⟨v0, vs0, d0, ds0, p0, q0, hargs0, rfl, rfl, h0, r0⟩ := trodAll_cons hA
  obtain ⟨rfl, rfl, rfl⟩ := trodAll_nil r0
  obtain rfl : args = #[v0] := by cases args; simp_all
  obtain ⟨sa, hv, hs⟩ := DR.of_laid hL
  obtain ⟨rfl, rfl⟩ := DataW.TrodVars.unique hV (DR.vars_read enc hv _)
  obtain ⟨a0, len0, cap0, rfl⟩ := okWide_slice Tryd.underlying22 (hval 0 22 v0 rfl rfl)
  have k0 := h0
  have lt0 : ∀ x ∈ p0, x.block < W.heap.size := by obtain ⟨m, hm⟩ := k0; exact DataW.trod_lt m _ _ _ hm
  obtain ⟨z0, w0⟩ : ∃ zs, IsRow .u8 W a0 len0 cap0 zs := by
    obtain ⟨fuel, hf⟩ := h0
    rcases open_ints Tryd.underlying22 Tryd.underlying5 (by kernel_rfl) hf with ⟨hcs, _⟩ | ⟨x, l, c, zs, hcs, _, hl, hm, hz, _, hcell, hwz⟩
    · simp [Value.cells] at hcs
      obtain ⟨rfl, rfl, rfl⟩ := hcs
      exact ⟨[], .inl ⟨rfl, rfl, rfl, rfl⟩⟩
    · simp [Value.cells] at hcs
      obtain ⟨rfl, rfl, rfl⟩ := hcs
      exact ⟨zs, .inr ⟨_, rfl, hl, hm, by simpa using hz, hcell, hwz⟩⟩
  clear hA0 hval0
  refine (walk a0 len0 cap0 z0 sa W w0 hs).mono fun e W' ⟨he, bel⟩ => ?_
  subst he
  exact ⟨_, rfl, _, _, _, [], _, [.cell 0 0], hW', trodAll_mk1 (shut_bool Tryd.underlying4 _), (trodAll_cons_mk (Below.trod laidOut (by kernel_rfl) (of_decide_eq_true (by kernel_rfl)) k0 bel lt0) trodAll_mk0), DR.vars_read enc (DR.var_below hv bel) _, bel.frame _, fun h => by cases h⟩

theorem said : Rows.FnSpotFarSaid :=
  OpenClaim.holds_of_wide 5 Tryd.f5 rfl rfl rfl rfl rfl rfl rfl ⟨rfl, rfl, rfl, rfl, rfl⟩ rfl rfl rfl rfl rfl (by kernel_rfl) Tryd.func5 (by kernel_rfl)
    (of_decide_eq_true (by kernel_rfl)) (by unfold Func.isWrapper; first | (rw [if_pos (by decide +kernel)]; kernel_rfl) | (rw [if_neg (by decide +kernel)]; exact ⟨rfl, rfl⟩))
    (fun os started H enc _ => lifted os started H enc)

theorem plain (f : FuncId) (fn : Func) (hf : Tryd.pinned.checked.prog.funcNamed "loop.example/alidade/laws.FnSpotFar" = some f) (hfn : Tryd.pinned.checked.prog.funcs[f]? = some fn) :
    true = Tryd.pinned.checked.prog.looks [] ∧ ∀ (j : Nat) t, fn.params[j]? = some t → Tryd.pinned.checked.prog.wantsStandIn t = false := by
  obtain rfl : f = 5 := Option.some.inj ((show Tryd.prog.funcNamed "loop.example/alidade/laws.FnSpotFar" = some 5 by kernel_rfl).symm.trans hf) |>.symm
  obtain rfl : fn = Tryd.f5 := (Option.some.inj (Tryd.func5.symm.trans hfn)).symm
  refine ⟨by kernel_rfl, fun j t ht => ?_⟩
  rw [Tryd.params5] at ht
  have hm : t ∈ [22] := by
    have := Array.mem_of_getElem? ht
    simpa using this
  have hall : ([22].all fun u => !Tryd.prog.wantsStandIn u) = true := by kernel_rfl
  exact (show Tryd.prog.wantsStandIn t = false by simpa using List.all_eq_true.1 hall t hm)

theorem card : Rows.FnSpotFarCardSaid :=
  Claim7.holds_tied_plain_at .later [] _ _ _ _ said (fun _ h => by cases h) (by kernel_rfl) (fun _ h => by cases h) fnSpotFar_row_tie rfl ⟨rfl, rfl⟩ (by kernel_rfl) rfl plain (by kernel_rfl)
end Go.Proofs.YtfdkpcejjcifgalDoor.fnSpotFar
namespace Go.Proofs.YtfdkpcejjcifgalDoor
theorem fnSpotFar_holds : Rows.FnSpotFarCardSaid := fnSpotFar.card
#print axioms fnSpotFar_holds
end Go.Proofs.YtfdkpcejjcifgalDoor
