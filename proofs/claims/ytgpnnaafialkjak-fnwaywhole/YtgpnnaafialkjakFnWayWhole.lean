/-
  For every two codes of bytes the law of WayOf returns true: of a drawn place the program's WayOf is the specification's; straight right, up, between both, and left, as far as the second code is long, are in their fans; nowhere has none. No conditions.
-/
import Derived.Test.YtgpnnaafialkjakRows
import Derived.WalkKit
import Derived.ProofKit
import Derived.OpenShut
import Derived.Test.YtgpnnaafialkjakBackImpl3
import Derived.Test.YtgpnnaafialkjakDrawBack
import Derived.Test.YtgpnnaafialkjakFanWalks
import Derived.ShutString
import Derived.ChangeOld
import Derived.Below
namespace Go.Proofs.Ytgpnnaafialkjak.fnWayWhole
open Go.ChangeShapes Go.WideShapes Go.ChangeAt Go.RowKit
open Go.ChangeMaps (open_string shut_string)
set_option linter.unusedVariables false

theorem own : ownKnob Try.prog.godebug = none := by kernel_rfl
theorem laidOut : laidOutB Try.prog = true := by kernel_rfl

/-- WHAT THE WALK IS TOLD OF A SLICE OF INTEGERS THAT CAME IN: it is nil; or it leads to a row of 'cap' cells, the numbers 'zs' (the first 'len' are its elements, the rest its spare room), each fitting its kind. -/
def IsRow (k : IntKind) (w : World) (a : Option Addr) (len cap : Nat) (zs : List Int) : Prop :=
  (a = none ∧ len = 0 ∧ cap = 0 ∧ zs = []) ∨
  ∃ x, a = some x ∧ len ≤ cap ∧ cap ≤ maxLen ∧ zs.length = cap ∧ (∀ i, i < zs.length → w.cell? (x.add i) = some (.int k (zs.getD i 0))) ∧ ∀ n ∈ zs, (Lit.int k n).wf = true

theorem add_none (b off i : Nat) : (⟨b, off, none⟩ : Addr).add i = ⟨b, off + i, none⟩ := by
  unfold Addr.add
  split
  · rename_i h
    subst h
    rfl
  · rfl
theorem src {w : World} {a : Option Addr} {len cap : Nat} {zs : List Int} (h : IsRow .u8 w a len cap zs) : DK.Src w a len cap := by
  rcases h with ⟨rfl, rfl, rfl, rfl⟩ | ⟨x, rfl, hl, hm, hz, hcell, hwz⟩
  · exact ⟨by omega, by omega, .inl rfl⟩
  · unfold maxLen at hm
    refine ⟨hl, by omega, ?_⟩
    by_cases h0 : len = 0
    · exact .inl h0
    · obtain ⟨b, off, spot⟩ := x
      have hc := hcell 0 (by omega)
      have hspot : spot = none := by simpa [Addr.add] using World.cell?_spot hc
      subst hspot
      refine .inr ⟨b, off, rfl, fun i hi => ?_⟩
      have hi2 : i < zs.length := by omega
      have hb := bounds_u8 (hwz (zs.getD i 0) (by simp [List.getD, hi2]))
      have hci := hcell i hi2
      rw [add_none] at hci
      exact ⟨zs.getD i 0, hb.1, hb.2, hci⟩

theorem okU_mk {x : Int} (a : -1000000000 ≤ x) (b : x ≤ 1000000000) : SK.okU x = true := decide_eq_true ⟨a, b⟩
theorem okW_mk {u r : Int} (a : -1000000000 ≤ u) (b : u ≤ 1000000000) (c : -1000000000 ≤ r) (d : r ≤ 1000000000) (e : u ≠ 0 ∨ r ≠ 0) : SK.okW u r = true := by
  unfold SK.okW
  rw [okU_mk a b, okU_mk c d]
  cases hx : (u == 0 && r == 0) with
  | false => rfl
  | true => simp at hx; omega
theorem way_pos {u r : Int} (u0 : 0 ≤ u) (r0 : 0 ≤ r) : SK.wyL u r = SI.wqL u r ∧ SK.wyH u r = SI.wqH u r := by
  have e1 : max u (-u) = u := by omega
  have e2 : max r (-r) = r := by omega
  unfold SK.wyL SK.wyH SK.rtL SK.rtH
  rw [if_neg (by omega), if_neg (by omega), if_neg (by omega), if_neg (by omega), e1, e2]
  exact ⟨rfl, rfl⟩
theorem pair (u r : Int) (a : -9223372036854775807 ≤ u) (b : -9223372036854775807 ≤ r) : ∃ (lo hi : Int) (c : Bool), (∀ w, Calls Try.prog 10 #[.int .i64 u, .int .i64 r] w fun e w' => e = .returned (.tuple #[SK.spV lo hi, .bool c]) ∧ Below w.heap.size w w') ∧ ∀ w, Calls Try.prog 11 #[.int .i64 u, .int .i64 r] w fun e w' => e = .returned (.tuple #[SK.spV lo hi, .bool c]) ∧ Below w.heap.size w w' :=
  ⟨_, _, _, fun w => SK.sWayOf_any u r w a b, fun w => SK.wayOf_any u r w a b⟩
theorem zero_at {n : Int} (n0 : 0 < n) (n1 : n ≤ 1048577) : ∃ p q : Int, (∀ w, Calls Try.prog 11 #[.int .i64 (0), .int .i64 (n)] w fun e w' => e = .returned (.tuple #[SK.spV p q, .bool true]) ∧ Below w.heap.size w w') ∧ ∀ w, Calls Try.prog 14 #[SK.spV p q, .int .i64 0] w fun e w' => e = .returned (.bool true) ∧ Below w.heap.size w w' := by
  refine ⟨SK.wyL (0) (n), SK.wyH (0) (n), fun w => ?_, fun w => ?_⟩
  · have := SK.wayOf_any (0) (n) w (by omega) (by omega)
    rw [okW_mk (by omega) (by omega) (by omega) (by omega) (by omega)] at this
    exact this
  · have := SK.fanHas_any (SK.wyL (0) (n)) (SK.wyH (0) (n)) 0 w
    rw [show SK.hasF (SK.wyL (0) (n)) (SK.wyH (0) (n)) 0 = true from ?_] at this
    · exact this
    · obtain ⟨e1, e2⟩ := way_pos (u := 0) (r := n) (by omega) (by omega)
      rw [e1, e2]
      obtain ⟨_, _, l0, l1, h0, h1⟩ := SI.wq_of (u := 0) (r := n) (by omega) (by omega)
      have le := SI.wq_le (u := 0) (r := n) (by omega) (by omega) (by omega)
      have z := SI.wq_zero n0
      exact SK.hasF_mk (SK.okF_mk (by omega) le (by omega)) (by omega) (by omega)
theorem quart_at {n : Int} (n0 : 0 < n) (n1 : n ≤ 1048577) : ∃ p q : Int, (∀ w, Calls Try.prog 11 #[.int .i64 (n), .int .i64 (0)] w fun e w' => e = .returned (.tuple #[SK.spV p q, .bool true]) ∧ Below w.heap.size w w') ∧ ∀ w, Calls Try.prog 14 #[SK.spV p q, .int .i64 32400000] w fun e w' => e = .returned (.bool true) ∧ Below w.heap.size w w' := by
  refine ⟨SK.wyL (n) (0), SK.wyH (n) (0), fun w => ?_, fun w => ?_⟩
  · have := SK.wayOf_any (n) (0) w (by omega) (by omega)
    rw [okW_mk (by omega) (by omega) (by omega) (by omega) (by omega)] at this
    exact this
  · have := SK.fanHas_any (SK.wyL (n) (0)) (SK.wyH (n) (0)) 32400000 w
    rw [show SK.hasF (SK.wyL (n) (0)) (SK.wyH (n) (0)) 32400000 = true from ?_] at this
    · exact this
    · obtain ⟨e1, e2⟩ := way_pos (u := n) (r := 0) (by omega) (by omega)
      rw [e1, e2]
      obtain ⟨_, _, l0, l1, h0, h1⟩ := SI.wq_of (u := n) (r := 0) (by omega) (by omega)
      have le := SI.wq_le (u := n) (r := 0) (by omega) (by omega) (by omega)
      have z := SI.wq_quart n0
      exact SK.hasF_mk (SK.okF_mk (by omega) le (by omega)) (by omega) (by omega)
theorem eighth_at {n : Int} (n0 : 0 < n) (n1 : n ≤ 1048577) : ∃ p q : Int, (∀ w, Calls Try.prog 11 #[.int .i64 (n), .int .i64 (n)] w fun e w' => e = .returned (.tuple #[SK.spV p q, .bool true]) ∧ Below w.heap.size w w') ∧ ∀ w, Calls Try.prog 14 #[SK.spV p q, .int .i64 16200000] w fun e w' => e = .returned (.bool true) ∧ Below w.heap.size w w' := by
  refine ⟨SK.wyL (n) (n), SK.wyH (n) (n), fun w => ?_, fun w => ?_⟩
  · have := SK.wayOf_any (n) (n) w (by omega) (by omega)
    rw [okW_mk (by omega) (by omega) (by omega) (by omega) (by omega)] at this
    exact this
  · have := SK.fanHas_any (SK.wyL (n) (n)) (SK.wyH (n) (n)) 16200000 w
    rw [show SK.hasF (SK.wyL (n) (n)) (SK.wyH (n) (n)) 16200000 = true from ?_] at this
    · exact this
    · obtain ⟨e1, e2⟩ := way_pos (u := n) (r := n) (by omega) (by omega)
      rw [e1, e2]
      obtain ⟨_, _, l0, l1, h0, h1⟩ := SI.wq_of (u := n) (r := n) (by omega) (by omega)
      have le := SI.wq_le (u := n) (r := n) (by omega) (by omega) (by omega)
      have z := SI.wq_eighth n0
      exact SK.hasF_mk (SK.okF_mk (by omega) le (by omega)) (by omega) (by omega)
theorem half_at {n : Int} (n0 : 0 < n) (n1 : n ≤ 1048577) : ∃ p q : Int, (∀ w, Calls Try.prog 11 #[.int .i64 (0), .int .i64 (-n)] w fun e w' => e = .returned (.tuple #[SK.spV p q, .bool true]) ∧ Below w.heap.size w w') ∧ ∀ w, Calls Try.prog 14 #[SK.spV p q, .int .i64 64800000] w fun e w' => e = .returned (.bool true) ∧ Below w.heap.size w w' := by
  refine ⟨SK.wyL (0) (-n), SK.wyH (0) (-n), fun w => ?_, fun w => ?_⟩
  · have := SK.wayOf_any (0) (-n) w (by omega) (by omega)
    rw [okW_mk (by omega) (by omega) (by omega) (by omega) (by omega)] at this
    exact this
  · have := SK.fanHas_any (SK.wyL (0) (-n)) (SK.wyH (0) (-n)) 64800000 w
    rw [show SK.hasF (SK.wyL (0) (-n)) (SK.wyH (0) (-n)) 64800000 = true from ?_] at this
    · exact this
    · have e1 : max 0 (-0 : Int) = 0 := by omega
      have e2 : max (-n) (-(-n)) = n := by omega
      obtain ⟨_, _, l0, l1, h0, h1⟩ := SI.wq_of (u := 0) (r := n) (by omega) (by omega)
      have le := SI.wq_le (u := 0) (r := n) (by omega) (by omega) (by omega)
      have z := SI.wq_zero n0
      have f1 : SK.wyL 0 (-n) = 64800000 - SI.wqH 0 n := by
        unfold SK.wyL SK.rtL
        rw [if_neg (by omega), if_pos (by omega), e1, e2]
      have f2 : SK.wyH 0 (-n) = 64800000 - SI.wqL 0 n := by
        unfold SK.wyH SK.rtH
        rw [if_neg (by omega), if_pos (by omega), e1, e2]
      rw [f1, f2]
      exact SK.hasF_mk (SK.okF_mk (by omega) (by omega) (by omega)) (by omega) (by omega)
set_option maxHeartbeats 8000000 in

theorem walk (a0 : Option Addr) (len0 cap0 : Nat) (z0 : List Int) (a1 : Option Addr) (len1 cap1 : Nat) (z1 : List Int) (w : World) (w0 : IsRow .u8 w a0 len0 cap0 z0) (w1 : IsRow .u8 w a1 len1 cap1 z1) :
    Calls Try.prog 7 #[.slice a0 len0 cap0, .slice a1 len1 cap1] w fun e w' => e = .returned (.bool true) ∧ Below w.heap.size w w' := by
  by_cases hl : (len0 : Int) ≤ 1048576
  · by_cases hm : (len1 : Int) ≤ 1048576
    · go_enter Try.func7, Try.ntmps7
      go_wp2_with fail
      refine (DW.drawWayOf_any _ _ _ _ (src w0)).mono ?_
      rintro e v1 ⟨u, r, rfl, u0, u1, r0, r1, Bx⟩
      have B := Bx
      clear Bx
      obtain ⟨lo, hi, c, hspec, himpl⟩ := pair u r (by omega) (by omega)
      obtain ⟨p1, q1, G1, H1⟩ := zero_at (n := 1 + (len1 : Int)) (by omega) (by omega)
      obtain ⟨p2, q2, G2, H2⟩ := quart_at (n := 1 + (len1 : Int)) (by omega) (by omega)
      obtain ⟨p3, q3, G3, H3⟩ := eighth_at (n := 1 + (len1 : Int)) (by omega) (by omega)
      obtain ⟨p4, q4, G4, H4⟩ := half_at (n := 1 + (len1 : Int)) (by omega) (by omega)
      have G5 : ∀ w, Calls Try.prog 11 #[.int .i64 0, .int .i64 0] w fun e w' => e = .returned (.tuple #[SK.spV 0 0, .bool false]) ∧ Below w.heap.size w w' := fun w => SK.wayOf_any 0 0 w (by decide) (by decide)
      go_wp2_with fail
      refine (hspec _).mono ?_
      rintro e v2 ⟨rfl, Bx⟩
      replace B := SK.below1 B Bx
      clear Bx
      have X := SK.Box.new v2 (lo) (hi) 26
      replace B := SK.below1 B (SK.below_new v2 (.cells #[.int .i64 (lo), .int .i64 (hi)] 26))
      have ⟨Xc0, Xc1, Xf0, Xf1⟩ := X
      go_wp2_with fail
      refine (himpl _).mono ?_
      rintro e v3 ⟨rfl, Bx⟩
      clear Xc0 Xc1 Xf0 Xf1
      replace X := X.kept Bx
      replace B := SK.below1 B Bx
      clear Bx
      replace X := X.alloc (.cells #[.int .i64 (lo), .int .i64 (hi)] 26)
      have Y := SK.Box.new v3 (lo) (hi) 26
      replace B := SK.below1 B (SK.below_new v3 (.cells #[.int .i64 (lo), .int .i64 (hi)] 26))
      clear hspec himpl
      have ⟨Xc0, Xc1, Xf0, Xf1⟩ := X
      have ⟨Yc0, Yc1, Yf0, Yf1⟩ := Y
      go_wp2_with fail
      refine (G1 _).mono ?_
      rintro e v4 ⟨rfl, Bx⟩
      clear Xc0 Xc1 Xf0 Xf1 Yc0 Yc1 Yf0 Yf1
      replace X := X.kept Bx
      replace Y := Y.kept Bx
      replace B := SK.below1 B Bx
      clear Bx
      replace X := X.alloc (.cells #[.int .i64 (p1), .int .i64 (q1)] 26)
      replace Y := Y.alloc (.cells #[.int .i64 (p1), .int .i64 (q1)] 26)
      have Z1 := SK.Box.new v4 (p1) (q1) 26
      replace B := SK.below1 B (SK.below_new v4 (.cells #[.int .i64 (p1), .int .i64 (q1)] 26))
      have ⟨Xc0, Xc1, Xf0, Xf1⟩ := X
      have ⟨Yc0, Yc1, Yf0, Yf1⟩ := Y
      have ⟨Z1c0, Z1c1, Z1f0, Z1f1⟩ := Z1
      go_wp2_with fail
      refine (G2 _).mono ?_
      rintro e v5 ⟨rfl, Bx⟩
      clear Xc0 Xc1 Xf0 Xf1 Yc0 Yc1 Yf0 Yf1 Z1c0 Z1c1 Z1f0 Z1f1
      replace X := X.kept Bx
      replace Y := Y.kept Bx
      replace Z1 := Z1.kept Bx
      replace B := SK.below1 B Bx
      clear Bx
      replace X := X.alloc (.cells #[.int .i64 (p2), .int .i64 (q2)] 26)
      replace Y := Y.alloc (.cells #[.int .i64 (p2), .int .i64 (q2)] 26)
      replace Z1 := Z1.alloc (.cells #[.int .i64 (p2), .int .i64 (q2)] 26)
      have Z2 := SK.Box.new v5 (p2) (q2) 26
      replace B := SK.below1 B (SK.below_new v5 (.cells #[.int .i64 (p2), .int .i64 (q2)] 26))
      have ⟨Xc0, Xc1, Xf0, Xf1⟩ := X
      have ⟨Yc0, Yc1, Yf0, Yf1⟩ := Y
      have ⟨Z1c0, Z1c1, Z1f0, Z1f1⟩ := Z1
      have ⟨Z2c0, Z2c1, Z2f0, Z2f1⟩ := Z2
      go_wp2_with fail
      refine (G3 _).mono ?_
      rintro e v6 ⟨rfl, Bx⟩
      clear Xc0 Xc1 Xf0 Xf1 Yc0 Yc1 Yf0 Yf1 Z1c0 Z1c1 Z1f0 Z1f1 Z2c0 Z2c1 Z2f0 Z2f1
      replace X := X.kept Bx
      replace Y := Y.kept Bx
      replace Z1 := Z1.kept Bx
      replace Z2 := Z2.kept Bx
      replace B := SK.below1 B Bx
      clear Bx
      replace X := X.alloc (.cells #[.int .i64 (p3), .int .i64 (q3)] 26)
      replace Y := Y.alloc (.cells #[.int .i64 (p3), .int .i64 (q3)] 26)
      replace Z1 := Z1.alloc (.cells #[.int .i64 (p3), .int .i64 (q3)] 26)
      replace Z2 := Z2.alloc (.cells #[.int .i64 (p3), .int .i64 (q3)] 26)
      have Z3 := SK.Box.new v6 (p3) (q3) 26
      replace B := SK.below1 B (SK.below_new v6 (.cells #[.int .i64 (p3), .int .i64 (q3)] 26))
      have ⟨Xc0, Xc1, Xf0, Xf1⟩ := X
      have ⟨Yc0, Yc1, Yf0, Yf1⟩ := Y
      have ⟨Z1c0, Z1c1, Z1f0, Z1f1⟩ := Z1
      have ⟨Z2c0, Z2c1, Z2f0, Z2f1⟩ := Z2
      have ⟨Z3c0, Z3c1, Z3f0, Z3f1⟩ := Z3
      go_wp2_with fail
      refine (G4 _).mono ?_
      rintro e v7 ⟨rfl, Bx⟩
      clear Xc0 Xc1 Xf0 Xf1 Yc0 Yc1 Yf0 Yf1 Z1c0 Z1c1 Z1f0 Z1f1 Z2c0 Z2c1 Z2f0 Z2f1 Z3c0 Z3c1 Z3f0 Z3f1
      replace X := X.kept Bx
      replace Y := Y.kept Bx
      replace Z1 := Z1.kept Bx
      replace Z2 := Z2.kept Bx
      replace Z3 := Z3.kept Bx
      replace B := SK.below1 B Bx
      clear Bx
      replace X := X.alloc (.cells #[.int .i64 (p4), .int .i64 (q4)] 26)
      replace Y := Y.alloc (.cells #[.int .i64 (p4), .int .i64 (q4)] 26)
      replace Z1 := Z1.alloc (.cells #[.int .i64 (p4), .int .i64 (q4)] 26)
      replace Z2 := Z2.alloc (.cells #[.int .i64 (p4), .int .i64 (q4)] 26)
      replace Z3 := Z3.alloc (.cells #[.int .i64 (p4), .int .i64 (q4)] 26)
      have Z4 := SK.Box.new v7 (p4) (q4) 26
      replace B := SK.below1 B (SK.below_new v7 (.cells #[.int .i64 (p4), .int .i64 (q4)] 26))
      have ⟨Xc0, Xc1, Xf0, Xf1⟩ := X
      have ⟨Yc0, Yc1, Yf0, Yf1⟩ := Y
      have ⟨Z1c0, Z1c1, Z1f0, Z1f1⟩ := Z1
      have ⟨Z2c0, Z2c1, Z2f0, Z2f1⟩ := Z2
      have ⟨Z3c0, Z3c1, Z3f0, Z3f1⟩ := Z3
      have ⟨Z4c0, Z4c1, Z4f0, Z4f1⟩ := Z4
      go_wp2_with fail
      refine (G5 _).mono ?_
      rintro e v8 ⟨rfl, Bx⟩
      clear Xc0 Xc1 Xf0 Xf1 Yc0 Yc1 Yf0 Yf1 Z1c0 Z1c1 Z1f0 Z1f1 Z2c0 Z2c1 Z2f0 Z2f1 Z3c0 Z3c1 Z3f0 Z3f1 Z4c0 Z4c1 Z4f0 Z4f1
      replace X := X.kept Bx
      replace Y := Y.kept Bx
      replace Z1 := Z1.kept Bx
      replace Z2 := Z2.kept Bx
      replace Z3 := Z3.kept Bx
      replace Z4 := Z4.kept Bx
      replace B := SK.below1 B Bx
      clear Bx
      replace X := X.alloc (.cells #[.int .i64 (0), .int .i64 (0)] 26)
      replace Y := Y.alloc (.cells #[.int .i64 (0), .int .i64 (0)] 26)
      replace Z1 := Z1.alloc (.cells #[.int .i64 (0), .int .i64 (0)] 26)
      replace Z2 := Z2.alloc (.cells #[.int .i64 (0), .int .i64 (0)] 26)
      replace Z3 := Z3.alloc (.cells #[.int .i64 (0), .int .i64 (0)] 26)
      replace Z4 := Z4.alloc (.cells #[.int .i64 (0), .int .i64 (0)] 26)
      have Z5 := SK.Box.new v8 (0) (0) 26
      replace B := SK.below1 B (SK.below_new v8 (.cells #[.int .i64 (0), .int .i64 (0)] 26))
      clear G1 G2 G3 G4 G5
      have ⟨Xc0, Xc1, Xf0, Xf1⟩ := X
      have ⟨Yc0, Yc1, Yf0, Yf1⟩ := Y
      have ⟨Z1c0, Z1c1, Z1f0, Z1f1⟩ := Z1
      have ⟨Z2c0, Z2c1, Z2f0, Z2f1⟩ := Z2
      have ⟨Z3c0, Z3c1, Z3f0, Z3f1⟩ := Z3
      have ⟨Z4c0, Z4c1, Z4f0, Z4f1⟩ := Z4
      have ⟨Z5c0, Z5c1, Z5f0, Z5f1⟩ := Z5
      go_wp2_with fail
      refine (H1 _).mono ?_
      rintro e v9 ⟨rfl, Bx⟩
      clear Xc0 Xc1 Xf0 Xf1 Yc0 Yc1 Yf0 Yf1 Z1c0 Z1c1 Z1f0 Z1f1 Z2c0 Z2c1 Z2f0 Z2f1 Z3c0 Z3c1 Z3f0 Z3f1 Z4c0 Z4c1 Z4f0 Z4f1 Z5c0 Z5c1 Z5f0 Z5f1
      replace X := X.kept Bx
      replace Y := Y.kept Bx
      replace Z1 := Z1.kept Bx
      replace Z2 := Z2.kept Bx
      replace Z3 := Z3.kept Bx
      replace Z4 := Z4.kept Bx
      replace Z5 := Z5.kept Bx
      replace B := SK.below1 B Bx
      clear Bx
      have ⟨Xc0, Xc1, Xf0, Xf1⟩ := X
      have ⟨Yc0, Yc1, Yf0, Yf1⟩ := Y
      have ⟨Z1c0, Z1c1, Z1f0, Z1f1⟩ := Z1
      have ⟨Z2c0, Z2c1, Z2f0, Z2f1⟩ := Z2
      have ⟨Z3c0, Z3c1, Z3f0, Z3f1⟩ := Z3
      have ⟨Z4c0, Z4c1, Z4f0, Z4f1⟩ := Z4
      have ⟨Z5c0, Z5c1, Z5f0, Z5f1⟩ := Z5
      go_wp2_with fail
      refine (H2 _).mono ?_
      rintro e v10 ⟨rfl, Bx⟩
      clear Xc0 Xc1 Xf0 Xf1 Yc0 Yc1 Yf0 Yf1 Z1c0 Z1c1 Z1f0 Z1f1 Z2c0 Z2c1 Z2f0 Z2f1 Z3c0 Z3c1 Z3f0 Z3f1 Z4c0 Z4c1 Z4f0 Z4f1 Z5c0 Z5c1 Z5f0 Z5f1
      replace X := X.kept Bx
      replace Y := Y.kept Bx
      replace Z1 := Z1.kept Bx
      replace Z2 := Z2.kept Bx
      replace Z3 := Z3.kept Bx
      replace Z4 := Z4.kept Bx
      replace Z5 := Z5.kept Bx
      replace B := SK.below1 B Bx
      clear Bx
      have ⟨Xc0, Xc1, Xf0, Xf1⟩ := X
      have ⟨Yc0, Yc1, Yf0, Yf1⟩ := Y
      have ⟨Z1c0, Z1c1, Z1f0, Z1f1⟩ := Z1
      have ⟨Z2c0, Z2c1, Z2f0, Z2f1⟩ := Z2
      have ⟨Z3c0, Z3c1, Z3f0, Z3f1⟩ := Z3
      have ⟨Z4c0, Z4c1, Z4f0, Z4f1⟩ := Z4
      have ⟨Z5c0, Z5c1, Z5f0, Z5f1⟩ := Z5
      go_wp2_with fail
      refine (H3 _).mono ?_
      rintro e v11 ⟨rfl, Bx⟩
      clear Xc0 Xc1 Xf0 Xf1 Yc0 Yc1 Yf0 Yf1 Z1c0 Z1c1 Z1f0 Z1f1 Z2c0 Z2c1 Z2f0 Z2f1 Z3c0 Z3c1 Z3f0 Z3f1 Z4c0 Z4c1 Z4f0 Z4f1 Z5c0 Z5c1 Z5f0 Z5f1
      replace X := X.kept Bx
      replace Y := Y.kept Bx
      replace Z1 := Z1.kept Bx
      replace Z2 := Z2.kept Bx
      replace Z3 := Z3.kept Bx
      replace Z4 := Z4.kept Bx
      replace Z5 := Z5.kept Bx
      replace B := SK.below1 B Bx
      clear Bx
      have ⟨Xc0, Xc1, Xf0, Xf1⟩ := X
      have ⟨Yc0, Yc1, Yf0, Yf1⟩ := Y
      have ⟨Z1c0, Z1c1, Z1f0, Z1f1⟩ := Z1
      have ⟨Z2c0, Z2c1, Z2f0, Z2f1⟩ := Z2
      have ⟨Z3c0, Z3c1, Z3f0, Z3f1⟩ := Z3
      have ⟨Z4c0, Z4c1, Z4f0, Z4f1⟩ := Z4
      have ⟨Z5c0, Z5c1, Z5f0, Z5f1⟩ := Z5
      go_wp2_with fail
      refine (H4 _).mono ?_
      rintro e v12 ⟨rfl, Bx⟩
      clear Xc0 Xc1 Xf0 Xf1 Yc0 Yc1 Yf0 Yf1 Z1c0 Z1c1 Z1f0 Z1f1 Z2c0 Z2c1 Z2f0 Z2f1 Z3c0 Z3c1 Z3f0 Z3f1 Z4c0 Z4c1 Z4f0 Z4f1 Z5c0 Z5c1 Z5f0 Z5f1
      replace X := X.kept Bx
      replace Y := Y.kept Bx
      replace Z1 := Z1.kept Bx
      replace Z2 := Z2.kept Bx
      replace Z3 := Z3.kept Bx
      replace Z4 := Z4.kept Bx
      replace Z5 := Z5.kept Bx
      replace B := SK.below1 B Bx
      clear Bx
      have ⟨Xc0, Xc1, Xf0, Xf1⟩ := X
      have ⟨Yc0, Yc1, Yf0, Yf1⟩ := Y
      have ⟨Z1c0, Z1c1, Z1f0, Z1f1⟩ := Z1
      have ⟨Z2c0, Z2c1, Z2f0, Z2f1⟩ := Z2
      have ⟨Z3c0, Z3c1, Z3f0, Z3f1⟩ := Z3
      have ⟨Z4c0, Z4c1, Z4f0, Z4f1⟩ := Z4
      have ⟨Z5c0, Z5c1, Z5f0, Z5f1⟩ := Z5
      go_wp2
      go_ret
      exact ⟨rfl, B⟩
    · go_enter Try.func7, Try.ntmps7
      go_wp2
      go_ret
      exact ⟨rfl, Below.refl _ _⟩
  · go_enter Try.func7, Try.ntmps7
    go_wp2
    go_ret
    exact ⟨rfl, Below.refl _ _⟩

set_option maxRecDepth 100000 in
theorem lifted (os : Os) (started : os.Started) (H : Type) (enc : TypeId × Value → H) :
    ReturnsInHanded {} Try.checked os 7 .any (Rows.fnWayWholeSpec.pre6 enc Try.prog Try.f7 Rows.fnWayWholeRow.domain false) (Rows.fnWayWholeSpec.post enc Try.prog Try.f7 false true false false) := by
  refine returnsInHanded_of_change (C := Try.checked) own started (by kernel_rfl) Try.func7
    (ChangeSpec.witness6 (enc := enc) (C := Try.checked) false ⟨#[], #[.slice none 0 0, .slice none 0 0], []⟩ 8 (by kernel_rfl) (by kernel_rfl) (by kernel_rfl) (by kernel_rfl)) ?_
  intro W base args ds gs before hval0 hW hcnd _
  have hval : ∀ (j : Nat) t v, Try.f7.params[j]? = some t → args[j]? = some v → Value.okWide Try.prog W .any base t v := hval0
  have hW' := hW
  obtain ⟨p, q, hA0, hV, rfl, hfz, hnd⟩ := hW
  have hA : DataW.TrodAll enc Try.prog W 0 (fun _ => true) true Try.f7.params.toList args.toList ds p := hA0
  rw [Try.params7] at hA hval
  obtain ⟨v0, vs0, d0, ds0, p0, q0, hargs, rfl, rfl, h0, r0⟩ := trodAll_cons hA
  obtain ⟨v1, vs1, d1, ds1, p1, q1, rfl, rfl, rfl, h1, r1⟩ := trodAll_cons r0
  obtain ⟨rfl, rfl, rfl⟩ := trodAll_nil r1
  obtain rfl : args = #[v0, v1] := by cases args; simp_all
  obtain ⟨rfl, rfl⟩ := trodVars_none hV
  obtain ⟨a0, len0, cap0, rfl⟩ := okWide_slice Try.underlying22 (hval 0 22 v0 rfl rfl)
  have k0 := h0
  have lt0 : ∀ x ∈ p0, x.block < W.heap.size := by obtain ⟨m, hm⟩ := k0; exact DataW.trod_lt m _ _ _ hm
  obtain ⟨z0, w0⟩ : ∃ zs, IsRow .u8 W a0 len0 cap0 zs := by
    obtain ⟨fuel, hf⟩ := h0
    rcases open_ints Try.underlying22 Try.underlying5 (by kernel_rfl) hf with ⟨hcs, _⟩ | ⟨x, l, c, zs, hcs, _, hl, hm, hz, _, hcell, hwz⟩
    · simp [Value.cells] at hcs
      obtain ⟨rfl, rfl, rfl⟩ := hcs
      exact ⟨[], .inl ⟨rfl, rfl, rfl, rfl⟩⟩
    · simp [Value.cells] at hcs
      obtain ⟨rfl, rfl, rfl⟩ := hcs
      exact ⟨zs, .inr ⟨_, rfl, hl, hm, by simpa using hz, hcell, hwz⟩⟩
  obtain ⟨a1, len1, cap1, rfl⟩ := okWide_slice Try.underlying22 (hval 1 22 v1 rfl rfl)
  have k1 := h1
  have lt1 : ∀ x ∈ p1, x.block < W.heap.size := by obtain ⟨m, hm⟩ := k1; exact DataW.trod_lt m _ _ _ hm
  obtain ⟨z1, w1⟩ : ∃ zs, IsRow .u8 W a1 len1 cap1 zs := by
    obtain ⟨fuel, hf⟩ := h1
    rcases open_ints Try.underlying22 Try.underlying5 (by kernel_rfl) hf with ⟨hcs, _⟩ | ⟨x, l, c, zs, hcs, _, hl, hm, hz, _, hcell, hwz⟩
    · simp [Value.cells] at hcs
      obtain ⟨rfl, rfl, rfl⟩ := hcs
      exact ⟨[], .inl ⟨rfl, rfl, rfl, rfl⟩⟩
    · simp [Value.cells] at hcs
      obtain ⟨rfl, rfl, rfl⟩ := hcs
      exact ⟨zs, .inr ⟨_, rfl, hl, hm, by simpa using hz, hcell, hwz⟩⟩
  clear hA0 hval0
  refine (walk a0 len0 cap0 z0 a1 len1 cap1 z1 W w0 w1).mono fun e W' ⟨he, bel⟩ => ?_
  subst he
  exact ⟨_, rfl, _, _, _, [], _, [], hW', trodAll_mk1 (shut_bool Try.underlying4 _), (trodAll_cons_mk (Below.trod laidOut (by kernel_rfl) (of_decide_eq_true (by kernel_rfl)) k0 bel lt0) (trodAll_cons_mk (Below.trod laidOut (by kernel_rfl) (of_decide_eq_true (by kernel_rfl)) k1 bel lt1) trodAll_mk0)), rfl, bel.frame _, fun h => by cases h⟩

theorem over : Rows.fnWayWholeRow.holds Try.pinned (OpenSpec.ofChange Rows.fnWayWholeSpec) :=
  OpenClaim.holds_of_wide 7 Try.f7 rfl rfl rfl rfl rfl rfl rfl ⟨rfl, rfl, rfl, rfl, rfl⟩ rfl rfl rfl rfl rfl (by kernel_rfl) Try.func7 (by kernel_rfl)
    (of_decide_eq_true (by kernel_rfl)) (by unfold Func.isWrapper; first | (rw [if_pos (by decide +kernel)]; kernel_rfl) | (rw [if_neg (by decide +kernel)]; exact ⟨rfl, rfl⟩))
    (fun os started H enc _ => lifted os started H enc)

theorem proved : Rows.FnWayWholeSaid := over
end Go.Proofs.Ytgpnnaafialkjak.fnWayWhole
namespace Go.Proofs.Ytgpnnaafialkjak
theorem fnWayWhole_holds : Rows.FnWayWholeSaid := fnWayWhole.proved
#print axioms fnWayWhole_holds
end Go.Proofs.Ytgpnnaafialkjak
