/-
  For every code of bytes the law of WayOf returns true: of a drawn place the program's WayOf is the specification's; of one neither below nor to the left its ends are up to a quarter, and at both the place lies on the side of the fan. No conditions.
-/
import Derived.Test.YtgpnnaafialkjakRows
import Derived.WalkKit
import Derived.ProofKit
import Derived.OpenShut
import Derived.Test.YtgpnnaafialkjakBackImpl3
import Derived.Test.YtgpnnaafialkjakDrawBack
import Derived.ShutString
import Derived.ChangeOld
import Derived.Below
namespace Go.Proofs.Ytgpnnaafialkjak.fnWayOf
open Go.ChangeShapes Go.WideShapes Go.ChangeAt Go.RowKit
open Go.ChangeMaps (open_string shut_string)
set_option linter.unusedVariables false

theorem own : ownKnob Try.prog.godebug = none := by kernel_rfl
theorem laidOut : laidOutB Try.prog = true := by kernel_rfl

/-- WHAT THE WALK IS TOLD OF A SLICE OF INTEGERS THAT CAME IN: it is nil; or it leads to a row of 'cap' cells, the numbers 'zs' (the first 'len' are its elements, the rest its spare room), each fitting its kind. -/
def IsRow (k : IntKind) (w : World) (a : Option Addr) (len cap : Nat) (zs : List Int) : Prop :=
  (a = none ∧ len = 0 ∧ cap = 0 ∧ zs = []) ∨
  ∃ x, a = some x ∧ len ≤ cap ∧ cap ≤ maxLen ∧ zs.length = cap ∧ (∀ i, i < zs.length → w.cell? (x.add i) = some (.int k (zs.getD i 0))) ∧ ∀ n ∈ zs, (Lit.int k n).wf = true

theorem add_none (b off i : Nat) : (⟨b, off, none⟩ : Addr).add i = ⟨b, off + i, none⟩ := by
  unfold Addr.add
  split
  · rename_i h
    subst h
    rfl
  · rfl
theorem src {w : World} {a : Option Addr} {len cap : Nat} {zs : List Int} (h : IsRow .u8 w a len cap zs) : DK.Src w a len cap := by
  rcases h with ⟨rfl, rfl, rfl, rfl⟩ | ⟨x, rfl, hl, hm, hz, hcell, hwz⟩
  · exact ⟨by omega, by omega, .inl rfl⟩
  · unfold maxLen at hm
    refine ⟨hl, by omega, ?_⟩
    by_cases h0 : len = 0
    · exact .inl h0
    · obtain ⟨b, off, spot⟩ := x
      have hc := hcell 0 (by omega)
      have hspot : spot = none := by simpa [Addr.add] using World.cell?_spot hc
      subst hspot
      refine .inr ⟨b, off, rfl, fun i hi => ?_⟩
      have hi2 : i < zs.length := by omega
      have hb := bounds_u8 (hwz (zs.getD i 0) (by simp [List.getD, hi2]))
      have hci := hcell i hi2
      rw [add_none] at hci
      exact ⟨zs.getD i 0, hb.1, hb.2, hci⟩

theorem way_pos {u r : Int} (u0 : 0 ≤ u) (r0 : 0 ≤ r) : SK.wyL u r = SI.wqL u r ∧ SK.wyH u r = SI.wqH u r := by
  have e1 : max u (-u) = u := by omega
  have e2 : max r (-r) = r := by omega
  unfold SK.wyL SK.wyH SK.rtL SK.rtH
  rw [if_neg (by omega), if_neg (by omega), if_neg (by omega), if_neg (by omega), e1, e2]
  exact ⟨rfl, rfl⟩
theorem way_key {u r : Int} (u0 : 0 ≤ u) (r0 : 0 ≤ r) (u1 : u ≤ 1000000000) (r1 : r ≤ 1000000000) :
    0 ≤ SK.wyL u r ∧ SK.wyL u r ≤ 32400000 ∧ 0 ≤ SK.wyH u r ∧ SK.wyH u r ≤ 32400000 ∧ SI.siL (2 * SK.wyL u r) * r ≤ SI.siH (2 * SK.wyL u r + 64800000) * u ∧ SI.siL (2 * SK.wyH u r + 64800000) * u ≤ SI.siH (2 * SK.wyH u r) * r := by
  obtain ⟨e1, e2⟩ := way_pos u0 r0
  rw [e1, e2]
  obtain ⟨lo, hi, l0, l1, h0, h1⟩ := SI.wq_of u0 r0
  refine ⟨l0, l1, h0, h1, ?_, ?_⟩
  · have a := (SI.si_enc (2 * SI.wqL u r)).2.b
    have b := (SI.si_enc (2 * SI.wqL u r + 64800000)).2.b
    have c := Int.mul_le_mul_of_nonneg_right a r0
    have d := Int.mul_le_mul_of_nonneg_right b u0
    rw [Int.mul_comm r, Int.mul_comm u] at lo
    omega
  · have a := (SI.si_enc (2 * SI.wqH u r)).2.b
    have b := (SI.si_enc (2 * SI.wqH u r + 64800000)).2.b
    have c := Int.mul_le_mul_of_nonneg_right a r0
    have d := Int.mul_le_mul_of_nonneg_right b u0
    rw [Int.mul_comm r, Int.mul_comm u] at hi
    omega
theorem mul_bd2 {l h r : Int} (f : SI.Fit l h) (r0 : 0 ≤ r) (r1 : r ≤ 1000000000) : (-1000000000000000000 ≤ l * r ∧ l * r ≤ 1000000000000000000) ∧ -1000000000000000000 ≤ h * r ∧ h * r ≤ 1000000000000000000 := by
  obtain ⟨f1, f2, f3, _⟩ := f
  have a := SM.mul_bd (x := l) (y := r) (A := 1000000000) (B := 1000000000) (by omega) (by omega) (by omega) (by omega)
  have b := SM.mul_bd (x := h) (y := r) (A := 1000000000) (B := 1000000000) (by omega) (by omega) (by omega) (by omega)
  omega
set_option maxHeartbeats 8000000 in

theorem walk (a0 : Option Addr) (len0 cap0 : Nat) (z0 : List Int) (w : World) (w0 : IsRow .u8 w a0 len0 cap0 z0) :
    Calls Try.prog 3 #[.slice a0 len0 cap0] w fun e w' => e = .returned (.bool true) ∧ Below w.heap.size w w' := by
  by_cases hl : (len0 : Int) ≤ 1048576
  · go_enter Try.func3, Try.ntmps3
    go_wp2_with fail
    refine (DW.drawWayOf_any _ _ _ _ (src w0)).mono ?_
    rintro e v1 ⟨u, r, rfl, u0, u1, r0, r1, Bx⟩
    have B := Bx
    clear Bx
    cases hx : SK.okW u r
    · have F1 : ∀ w, Calls Try.prog 10 #[.int .i64 (u), .int .i64 (r)] w fun e w' => e = .returned (.tuple #[SK.spV (0) (0), .bool false]) ∧ Below w.heap.size w w' := fun w => by have := SK.sWayOf_any (u) (r) w (by omega) (by omega); rw [hx] at this; exact this
      have F2 : ∀ w, Calls Try.prog 11 #[.int .i64 (u), .int .i64 (r)] w fun e w' => e = .returned (.tuple #[SK.spV (0) (0), .bool false]) ∧ Below w.heap.size w w' := fun w => by have := SK.wayOf_any (u) (r) w (by omega) (by omega); rw [hx] at this; exact this
      go_wp2_with fail
      refine (F1 _).mono ?_
      rintro e v2 ⟨rfl, Bx⟩
      replace B := SK.below1 B Bx
      clear Bx
      have X := SK.Box.new v2 (0) (0) 26
      replace B := SK.below1 B (SK.below_new v2 (.cells #[.int .i64 (0), .int .i64 (0)] 26))
      have ⟨Xc0, Xc1, Xf0, Xf1⟩ := X
      go_wp2_with fail
      refine (F2 _).mono ?_
      rintro e v3 ⟨rfl, Bx⟩
      clear Xc0 Xc1 Xf0 Xf1
      replace X := X.kept Bx
      replace B := SK.below1 B Bx
      clear Bx
      replace X := X.alloc (.cells #[.int .i64 (0), .int .i64 (0)] 26)
      have Y := SK.Box.new v3 (0) (0) 26
      replace B := SK.below1 B (SK.below_new v3 (.cells #[.int .i64 (0), .int .i64 (0)] 26))
      have ⟨Xc0, Xc1, Xf0, Xf1⟩ := X
      have ⟨Yc0, Yc1, Yf0, Yf1⟩ := Y
      go_wp2
      go_ret
      exact ⟨rfl, B⟩
    · have F1 : ∀ w, Calls Try.prog 10 #[.int .i64 (u), .int .i64 (r)] w fun e w' => e = .returned (.tuple #[SK.spV (SK.wyL (u) (r)) (SK.wyH (u) (r)), .bool true]) ∧ Below w.heap.size w w' := fun w => by have := SK.sWayOf_any (u) (r) w (by omega) (by omega); rw [hx] at this; exact this
      have F2 : ∀ w, Calls Try.prog 11 #[.int .i64 (u), .int .i64 (r)] w fun e w' => e = .returned (.tuple #[SK.spV (SK.wyL (u) (r)) (SK.wyH (u) (r)), .bool true]) ∧ Below w.heap.size w w' := fun w => by have := SK.wayOf_any (u) (r) w (by omega) (by omega); rw [hx] at this; exact this
      obtain ⟨⟨a0, a1⟩, ⟨b0, b1⟩, ne⟩ := SK.okW_of hx
      clear hx ne
      by_cases gu : u < 0
      · generalize SK.wyL u r = p at *
        generalize SK.wyH u r = q at *
        go_wp2_with fail
        refine (F1 _).mono ?_
        rintro e v2 ⟨rfl, Bx⟩
        replace B := SK.below1 B Bx
        clear Bx
        have X := SK.Box.new v2 (p) (q) 26
        replace B := SK.below1 B (SK.below_new v2 (.cells #[.int .i64 (p), .int .i64 (q)] 26))
        have ⟨Xc0, Xc1, Xf0, Xf1⟩ := X
        go_wp2_with fail
        refine (F2 _).mono ?_
        rintro e v3 ⟨rfl, Bx⟩
        clear Xc0 Xc1 Xf0 Xf1
        replace X := X.kept Bx
        replace B := SK.below1 B Bx
        clear Bx
        replace X := X.alloc (.cells #[.int .i64 (p), .int .i64 (q)] 26)
        have Y := SK.Box.new v3 (p) (q) 26
        replace B := SK.below1 B (SK.below_new v3 (.cells #[.int .i64 (p), .int .i64 (q)] 26))
        have ⟨Xc0, Xc1, Xf0, Xf1⟩ := X
        have ⟨Yc0, Yc1, Yf0, Yf1⟩ := Y
        go_wp2
        go_ret
        exact ⟨rfl, B⟩
      · by_cases gr : r < 0
        · generalize SK.wyL u r = p at *
          generalize SK.wyH u r = q at *
          go_wp2_with fail
          refine (F1 _).mono ?_
          rintro e v2 ⟨rfl, Bx⟩
          replace B := SK.below1 B Bx
          clear Bx
          have X := SK.Box.new v2 (p) (q) 26
          replace B := SK.below1 B (SK.below_new v2 (.cells #[.int .i64 (p), .int .i64 (q)] 26))
          have ⟨Xc0, Xc1, Xf0, Xf1⟩ := X
          go_wp2_with fail
          refine (F2 _).mono ?_
          rintro e v3 ⟨rfl, Bx⟩
          clear Xc0 Xc1 Xf0 Xf1
          replace X := X.kept Bx
          replace B := SK.below1 B Bx
          clear Bx
          replace X := X.alloc (.cells #[.int .i64 (p), .int .i64 (q)] 26)
          have Y := SK.Box.new v3 (p) (q) 26
          replace B := SK.below1 B (SK.below_new v3 (.cells #[.int .i64 (p), .int .i64 (q)] 26))
          have ⟨Xc0, Xc1, Xf0, Xf1⟩ := X
          have ⟨Yc0, Yc1, Yf0, Yf1⟩ := Y
          go_wp2
          go_ret
          exact ⟨rfl, B⟩
        · obtain ⟨s1, s2, s3, s4, s5, s6⟩ := way_key (by omega) (by omega) a1 b1
          have h1 : SK.okA (SK.wyL u r) = true := SK.okA_mk (by omega) (by omega)
          have h2 : SK.okA (SK.wyH u r) = true := SK.okA_mk (by omega) (by omega)
          have F3 : ∀ w, Calls Try.prog 12 #[.int .i64 (SK.wyL u r)] w fun e w' => e = .returned (.tuple #[SK.spV (SI.siL (2 * (SK.wyL u r))) (SI.siH (2 * (SK.wyL u r))), .bool true]) ∧ Below w.heap.size w w' := fun w => by have := SK.sineOf_any (SK.wyL u r) w; rw [h1] at this; exact this
          have F4 : ∀ w, Calls Try.prog 13 #[.int .i64 (SK.wyL u r)] w fun e w' => e = .returned (.tuple #[SK.spV (SI.siL (2 * (SK.wyL u r) + 64800000)) (SI.siH (2 * (SK.wyL u r) + 64800000)), .bool true]) ∧ Below w.heap.size w w' := fun w => by have := SK.cosOf_any (SK.wyL u r) w; rw [h1] at this; exact this
          have F5 : ∀ w, Calls Try.prog 12 #[.int .i64 (SK.wyH u r)] w fun e w' => e = .returned (.tuple #[SK.spV (SI.siL (2 * (SK.wyH u r))) (SI.siH (2 * (SK.wyH u r))), .bool true]) ∧ Below w.heap.size w w' := fun w => by have := SK.sineOf_any (SK.wyH u r) w; rw [h2] at this; exact this
          have F6 : ∀ w, Calls Try.prog 13 #[.int .i64 (SK.wyH u r)] w fun e w' => e = .returned (.tuple #[SK.spV (SI.siL (2 * (SK.wyH u r) + 64800000)) (SI.siH (2 * (SK.wyH u r) + 64800000)), .bool true]) ∧ Below w.heap.size w w' := fun w => by have := SK.cosOf_any (SK.wyH u r) w; rw [h2] at this; exact this
          clear h1 h2
          have b1' := mul_bd2 (SI.si_enc (2 * SK.wyL u r)).2 (by omega) b1
          have b2' := mul_bd2 (SI.si_enc (2 * SK.wyL u r + 64800000)).2 (by omega) a1
          have b3' := mul_bd2 (SI.si_enc (2 * SK.wyH u r)).2 (by omega) b1
          have b4' := mul_bd2 (SI.si_enc (2 * SK.wyH u r + 64800000)).2 (by omega) a1
          generalize SI.siL (2 * SK.wyL u r + 64800000) = cl at *
          generalize SI.siH (2 * SK.wyL u r + 64800000) = ch at *
          generalize SI.siL (2 * SK.wyL u r) = sl at *
          generalize SI.siH (2 * SK.wyL u r) = sh at *
          generalize SI.siL (2 * SK.wyH u r + 64800000) = dl at *
          generalize SI.siH (2 * SK.wyH u r + 64800000) = dh at *
          generalize SI.siL (2 * SK.wyH u r) = tl at *
          generalize SI.siH (2 * SK.wyH u r) = th at *
          generalize SK.wyL u r = p at *
          generalize SK.wyH u r = q at *
          have v1 : IntKind.i64.wrap (sl * r) = sl * r := SK.wrap_id (by omega) (by omega)
          have v2 : IntKind.i64.wrap (ch * u) = ch * u := SK.wrap_id (by omega) (by omega)
          have v3 : IntKind.i64.wrap (th * r) = th * r := SK.wrap_id (by omega) (by omega)
          have v4 : IntKind.i64.wrap (dl * u) = dl * u := SK.wrap_id (by omega) (by omega)
          go_wp2_with fail
          refine (F1 _).mono ?_
          rintro e v2 ⟨rfl, Bx⟩
          replace B := SK.below1 B Bx
          clear Bx
          have X := SK.Box.new v2 (p) (q) 26
          replace B := SK.below1 B (SK.below_new v2 (.cells #[.int .i64 (p), .int .i64 (q)] 26))
          have ⟨Xc0, Xc1, Xf0, Xf1⟩ := X
          go_wp2_with fail
          refine (F2 _).mono ?_
          rintro e v3 ⟨rfl, Bx⟩
          clear Xc0 Xc1 Xf0 Xf1
          replace X := X.kept Bx
          replace B := SK.below1 B Bx
          clear Bx
          replace X := X.alloc (.cells #[.int .i64 (p), .int .i64 (q)] 26)
          have Y := SK.Box.new v3 (p) (q) 26
          replace B := SK.below1 B (SK.below_new v3 (.cells #[.int .i64 (p), .int .i64 (q)] 26))
          have ⟨Xc0, Xc1, Xf0, Xf1⟩ := X
          have ⟨Yc0, Yc1, Yf0, Yf1⟩ := Y
          go_wp2_with fail
          refine (F3 _).mono ?_
          rintro e v4 ⟨rfl, Bx⟩
          clear Xc0 Xc1 Xf0 Xf1 Yc0 Yc1 Yf0 Yf1
          replace X := X.kept Bx
          replace Y := Y.kept Bx
          replace B := SK.below1 B Bx
          clear Bx
          replace X := X.alloc (.cells #[.int .i64 (sl), .int .i64 (sh)] 29)
          replace Y := Y.alloc (.cells #[.int .i64 (sl), .int .i64 (sh)] 29)
          have S := SK.Box.new v4 (sl) (sh) 29
          replace B := SK.below1 B (SK.below_new v4 (.cells #[.int .i64 (sl), .int .i64 (sh)] 29))
          have ⟨Xc0, Xc1, Xf0, Xf1⟩ := X
          have ⟨Yc0, Yc1, Yf0, Yf1⟩ := Y
          have ⟨Sc0, Sc1, Sf0, Sf1⟩ := S
          go_wp2_with fail
          refine (F4 _).mono ?_
          rintro e v5 ⟨rfl, Bx⟩
          clear Xc0 Xc1 Xf0 Xf1 Yc0 Yc1 Yf0 Yf1 Sc0 Sc1 Sf0 Sf1
          replace X := X.kept Bx
          replace Y := Y.kept Bx
          replace S := S.kept Bx
          replace B := SK.below1 B Bx
          clear Bx
          replace X := X.alloc (.cells #[.int .i64 (cl), .int .i64 (ch)] 29)
          replace Y := Y.alloc (.cells #[.int .i64 (cl), .int .i64 (ch)] 29)
          replace S := S.alloc (.cells #[.int .i64 (cl), .int .i64 (ch)] 29)
          have C := SK.Box.new v5 (cl) (ch) 29
          replace B := SK.below1 B (SK.below_new v5 (.cells #[.int .i64 (cl), .int .i64 (ch)] 29))
          have ⟨Xc0, Xc1, Xf0, Xf1⟩ := X
          have ⟨Yc0, Yc1, Yf0, Yf1⟩ := Y
          have ⟨Sc0, Sc1, Sf0, Sf1⟩ := S
          have ⟨Cc0, Cc1, Cf0, Cf1⟩ := C
          go_wp2_with fail
          refine (F5 _).mono ?_
          rintro e v6 ⟨rfl, Bx⟩
          clear Xc0 Xc1 Xf0 Xf1 Yc0 Yc1 Yf0 Yf1 Sc0 Sc1 Sf0 Sf1 Cc0 Cc1 Cf0 Cf1
          replace X := X.kept Bx
          replace Y := Y.kept Bx
          replace S := S.kept Bx
          replace C := C.kept Bx
          replace B := SK.below1 B Bx
          clear Bx
          replace X := X.alloc (.cells #[.int .i64 (tl), .int .i64 (th)] 29)
          replace Y := Y.alloc (.cells #[.int .i64 (tl), .int .i64 (th)] 29)
          replace S := S.alloc (.cells #[.int .i64 (tl), .int .i64 (th)] 29)
          replace C := C.alloc (.cells #[.int .i64 (tl), .int .i64 (th)] 29)
          have T := SK.Box.new v6 (tl) (th) 29
          replace B := SK.below1 B (SK.below_new v6 (.cells #[.int .i64 (tl), .int .i64 (th)] 29))
          have ⟨Xc0, Xc1, Xf0, Xf1⟩ := X
          have ⟨Yc0, Yc1, Yf0, Yf1⟩ := Y
          have ⟨Sc0, Sc1, Sf0, Sf1⟩ := S
          have ⟨Cc0, Cc1, Cf0, Cf1⟩ := C
          have ⟨Tc0, Tc1, Tf0, Tf1⟩ := T
          go_wp2_with fail
          refine (F6 _).mono ?_
          rintro e v7 ⟨rfl, Bx⟩
          clear Xc0 Xc1 Xf0 Xf1 Yc0 Yc1 Yf0 Yf1 Sc0 Sc1 Sf0 Sf1 Cc0 Cc1 Cf0 Cf1 Tc0 Tc1 Tf0 Tf1
          replace X := X.kept Bx
          replace Y := Y.kept Bx
          replace S := S.kept Bx
          replace C := C.kept Bx
          replace T := T.kept Bx
          replace B := SK.below1 B Bx
          clear Bx
          replace X := X.alloc (.cells #[.int .i64 (dl), .int .i64 (dh)] 29)
          replace Y := Y.alloc (.cells #[.int .i64 (dl), .int .i64 (dh)] 29)
          replace S := S.alloc (.cells #[.int .i64 (dl), .int .i64 (dh)] 29)
          replace C := C.alloc (.cells #[.int .i64 (dl), .int .i64 (dh)] 29)
          replace T := T.alloc (.cells #[.int .i64 (dl), .int .i64 (dh)] 29)
          have D := SK.Box.new v7 (dl) (dh) 29
          replace B := SK.below1 B (SK.below_new v7 (.cells #[.int .i64 (dl), .int .i64 (dh)] 29))
          have ⟨Xc0, Xc1, Xf0, Xf1⟩ := X
          have ⟨Yc0, Yc1, Yf0, Yf1⟩ := Y
          have ⟨Sc0, Sc1, Sf0, Sf1⟩ := S
          have ⟨Cc0, Cc1, Cf0, Cf1⟩ := C
          have ⟨Tc0, Tc1, Tf0, Tf1⟩ := T
          have ⟨Dc0, Dc1, Df0, Df1⟩ := D
          go_wp2
          go_ret
          exact ⟨rfl, B⟩
  · go_enter Try.func3, Try.ntmps3
    go_wp2
    go_ret
    exact ⟨rfl, Below.refl _ _⟩

set_option maxRecDepth 100000 in
theorem lifted (os : Os) (started : os.Started) (H : Type) (enc : TypeId × Value → H) :
    ReturnsInHanded {} Try.checked os 3 .any (Rows.fnWayOfSpec.pre6 enc Try.prog Try.f3 Rows.fnWayOfRow.domain false) (Rows.fnWayOfSpec.post enc Try.prog Try.f3 false true false false) := by
  refine returnsInHanded_of_change (C := Try.checked) own started (by kernel_rfl) Try.func3
    (ChangeSpec.witness6 (enc := enc) (C := Try.checked) false ⟨#[], #[.slice none 0 0], []⟩ 8 (by kernel_rfl) (by kernel_rfl) (by kernel_rfl) (by kernel_rfl)) ?_
  intro W base args ds gs before hval0 hW hcnd _
  have hval : ∀ (j : Nat) t v, Try.f3.params[j]? = some t → args[j]? = some v → Value.okWide Try.prog W .any base t v := hval0
  have hW' := hW
  obtain ⟨p, q, hA0, hV, rfl, hfz, hnd⟩ := hW
  have hA : DataW.TrodAll enc Try.prog W 0 (fun _ => true) true Try.f3.params.toList args.toList ds p := hA0
  rw [Try.params3] at hA hval
  obtain ⟨v0, vs0, d0, ds0, p0, q0, hargs, rfl, rfl, h0, r0⟩ := trodAll_cons hA
  obtain ⟨rfl, rfl, rfl⟩ := trodAll_nil r0
  obtain rfl : args = #[v0] := by cases args; simp_all
  obtain ⟨rfl, rfl⟩ := trodVars_none hV
  obtain ⟨a0, len0, cap0, rfl⟩ := okWide_slice Try.underlying22 (hval 0 22 v0 rfl rfl)
  have k0 := h0
  have lt0 : ∀ x ∈ p0, x.block < W.heap.size := by obtain ⟨m, hm⟩ := k0; exact DataW.trod_lt m _ _ _ hm
  obtain ⟨z0, w0⟩ : ∃ zs, IsRow .u8 W a0 len0 cap0 zs := by
    obtain ⟨fuel, hf⟩ := h0
    rcases open_ints Try.underlying22 Try.underlying5 (by kernel_rfl) hf with ⟨hcs, _⟩ | ⟨x, l, c, zs, hcs, _, hl, hm, hz, _, hcell, hwz⟩
    · simp [Value.cells] at hcs
      obtain ⟨rfl, rfl, rfl⟩ := hcs
      exact ⟨[], .inl ⟨rfl, rfl, rfl, rfl⟩⟩
    · simp [Value.cells] at hcs
      obtain ⟨rfl, rfl, rfl⟩ := hcs
      exact ⟨zs, .inr ⟨_, rfl, hl, hm, by simpa using hz, hcell, hwz⟩⟩
  clear hA0 hval0
  refine (walk a0 len0 cap0 z0 W w0).mono fun e W' ⟨he, bel⟩ => ?_
  subst he
  exact ⟨_, rfl, _, _, _, [], _, [], hW', trodAll_mk1 (shut_bool Try.underlying4 _), (trodAll_cons_mk (Below.trod laidOut (by kernel_rfl) (of_decide_eq_true (by kernel_rfl)) k0 bel lt0) trodAll_mk0), rfl, bel.frame _, fun h => by cases h⟩

theorem over : Rows.fnWayOfRow.holds Try.pinned (OpenSpec.ofChange Rows.fnWayOfSpec) :=
  OpenClaim.holds_of_wide 3 Try.f3 rfl rfl rfl rfl rfl rfl rfl ⟨rfl, rfl, rfl, rfl, rfl⟩ rfl rfl rfl rfl rfl (by kernel_rfl) Try.func3 (by kernel_rfl)
    (of_decide_eq_true (by kernel_rfl)) (by unfold Func.isWrapper; first | (rw [if_pos (by decide +kernel)]; kernel_rfl) | (rw [if_neg (by decide +kernel)]; exact ⟨rfl, rfl⟩))
    (fun os started H enc _ => lifted os started H enc)

theorem proved : Rows.FnWayOfSaid := over
end Go.Proofs.Ytgpnnaafialkjak.fnWayOf
namespace Go.Proofs.Ytgpnnaafialkjak
theorem fnWayOf_holds : Rows.FnWayOfSaid := fnWayOf.proved
#print axioms fnWayOf_holds
end Go.Proofs.Ytgpnnaafialkjak
