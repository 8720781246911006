/-
  For every code of bytes the law of SineOf returns true: of a drawn angle the program's SineOf is the specification's; of each twelfth of a turn it is exact just if it is 0, half or one, either way. No conditions.
-/
import Derived.Test.YthefibnjaoimgahRows
import Derived.WalkKit
import Derived.ProofKit
import Derived.OpenShut
import Derived.Test.YthefibnjaoimgahSineImpl
import Derived.Test.YthefibnjaoimgahDrawSine
import Derived.Test.YthefibnjaoimgahSineLaws
import Derived.Test.YthefibnjaoimgahKeptStep
import Derived.ShutString
import Derived.ChangeOld
import Derived.Below
namespace Go.Proofs.Ythefibnjaoimgah.fnSineExact
open Go.ChangeShapes Go.WideShapes Go.ChangeAt Go.RowKit
open Go.ChangeMaps (open_string shut_string)
set_option linter.unusedVariables false

theorem own : ownKnob Try.prog.godebug = none := by kernel_rfl
theorem laidOut : laidOutB Try.prog = true := by kernel_rfl

/-- WHAT THE WALK IS TOLD OF A SLICE OF INTEGERS THAT CAME IN: it is nil; or it leads to a row of 'cap' cells, the numbers 'zs' (the first 'len' are its elements, the rest its spare room), each fitting its kind. -/
def IsRow (k : IntKind) (w : World) (a : Option Addr) (len cap : Nat) (zs : List Int) : Prop :=
  (a = none ∧ len = 0 ∧ cap = 0 ∧ zs = []) ∨
  ∃ x, a = some x ∧ len ≤ cap ∧ cap ≤ maxLen ∧ zs.length = cap ∧ (∀ i, i < zs.length → w.cell? (x.add i) = some (.int k (zs.getD i 0))) ∧ ∀ n ∈ zs, (Lit.int k n).wf = true

theorem add_none (b off i : Nat) : (⟨b, off, none⟩ : Addr).add i = ⟨b, off + i, none⟩ := by
  unfold Addr.add
  split
  · rename_i h
    subst h
    rfl
  · rfl
theorem src {w : World} {a : Option Addr} {len cap : Nat} {zs : List Int} (h : IsRow .u8 w a len cap zs) : DK.Src w a len cap := by
  rcases h with ⟨rfl, rfl, rfl, rfl⟩ | ⟨x, rfl, hl, hm, hz, hcell, hwz⟩
  · exact ⟨by omega, by omega, .inl rfl⟩
  · unfold maxLen at hm
    refine ⟨hl, by omega, ?_⟩
    by_cases h0 : len = 0
    · exact .inl h0
    · obtain ⟨b, off, spot⟩ := x
      have hc := hcell 0 (by omega)
      have hspot : spot = none := by simpa [Addr.add] using World.cell?_spot hc
      subst hspot
      refine .inr ⟨b, off, rfl, fun i hi => ?_⟩
      have hi2 : i < zs.length := by omega
      have hb := bounds_u8 (hwz (zs.getD i 0) (by simp [List.getD, hi2]))
      have hci := hcell i hi2
      rw [add_none] at hci
      exact ⟨zs.getD i 0, hb.1, hb.2, hci⟩

theorem pair (x : Int) : ∃ (lo hi : Int) (c : Bool), (∀ w, Calls Try.prog 6 #[.int .i64 x] w fun e w' => e = .returned (.tuple #[SK.spV lo hi, .bool c]) ∧ Below w.heap.size w w') ∧ ∀ w, Calls Try.prog 7 #[.int .i64 x] w fun e w' => e = .returned (.tuple #[SK.spV lo hi, .bool c]) ∧ Below w.heap.size w w' :=
  ⟨_, _, _, fun w => SK.sSineOf_any x w, fun w => SK.sineOf_any x w⟩
theorem told {a : Int} (v h : Int) (e : SK.okA a = true) (ex : SI.siL h = v ∧ SI.siH h = v) (F : ∀ w, Calls Try.prog 7 #[.int .i64 a] w fun e w' => e = .returned (.tuple #[SK.spV (SM.sel (SK.okA a) (SI.siL h)) (SM.sel (SK.okA a) (SI.siH h)), .bool (SK.okA a)]) ∧ Below w.heap.size w w') :
    ∀ w, Calls Try.prog 7 #[.int .i64 a] w fun e w' => e = .returned (.tuple #[SK.spV v v, .bool true]) ∧ Below w.heap.size w w' := by
  rw [e, ex.1, ex.2] at F
  exact F
theorem wide {a : Int} (h : Int) (e : SK.okA a = true) (ex : SI.siL h < SI.siH h) (F : ∀ w, Calls Try.prog 7 #[.int .i64 a] w fun e w' => e = .returned (.tuple #[SK.spV (SM.sel (SK.okA a) (SI.siL h)) (SM.sel (SK.okA a) (SI.siH h)), .bool (SK.okA a)]) ∧ Below w.heap.size w w') :
    ∃ p q : Int, p < q ∧ ∀ w, Calls Try.prog 7 #[.int .i64 a] w fun e w' => e = .returned (.tuple #[SK.spV p q, .bool true]) ∧ Below w.heap.size w w' := by
  rw [e] at F
  exact ⟨_, _, ex, F⟩
set_option maxHeartbeats 8000000 in

theorem walk (a0 : Option Addr) (len0 cap0 : Nat) (z0 : List Int) (w : World) (w0 : IsRow .u8 w a0 len0 cap0 z0) :
    Calls Try.prog 3 #[.slice a0 len0 cap0] w fun e w' => e = .returned (.bool true) ∧ Below w.heap.size w w' := by
  by_cases hl : (len0 : Int) ≤ 1048576
  · go_enter Try.func3, Try.ntmps3
    go_wp2_with fail
    refine (DW.drawSineOf_any _ _ _ _ (src w0)).mono ?_
    rintro e v1 ⟨x, rfl, x0, x1, Bx⟩
    have B := Bx
    clear Bx
    obtain ⟨lo, hi, c, hspec, himpl⟩ := pair x
    go_wp2_with fail
    refine (hspec _).mono ?_
    rintro e v2 ⟨rfl, Bx⟩
    replace B := SK.below1 B Bx
    clear Bx
    have X := SK.Box.new v2 (lo) (hi) 25
    replace B := SK.below1 B (SK.below_new v2 (.cells #[.int .i64 (lo), .int .i64 (hi)] 25))
    have ⟨Xc0, Xc1, Xf0, Xf1⟩ := X
    go_wp2_with fail
    refine (himpl _).mono ?_
    rintro e v3 ⟨rfl, Bx⟩
    clear Xc0 Xc1 Xf0 Xf1
    replace X := X.kept Bx
    replace B := SK.below1 B Bx
    clear Bx
    replace X := X.alloc (.cells #[.int .i64 (lo), .int .i64 (hi)] 25)
    have Y := SK.Box.new v3 (lo) (hi) 25
    replace B := SK.below1 B (SK.below_new v3 (.cells #[.int .i64 (lo), .int .i64 (hi)] 25))
    clear hspec himpl
    have hk0 : 0 ≤ (len0 : Int).tmod 12 := Int.tmod_nonneg _ (by omega)
    have hk1 : (len0 : Int).tmod 12 < 12 := Int.tmod_lt_of_pos _ (by decide)
    rcases (show (len0 : Int).tmod 12 = 0 ∨ (len0 : Int).tmod 12 = 1 ∨ (len0 : Int).tmod 12 = 2 ∨ (len0 : Int).tmod 12 = 3 ∨ (len0 : Int).tmod 12 = 4 ∨ (len0 : Int).tmod 12 = 5 ∨ (len0 : Int).tmod 12 = 6 ∨ (len0 : Int).tmod 12 = 7 ∨ (len0 : Int).tmod 12 = 8 ∨ (len0 : Int).tmod 12 = 9 ∨ (len0 : Int).tmod 12 = 10 ∨ (len0 : Int).tmod 12 = 11 by omega) with hk | hk | hk | hk | hk | hk | hk | hk | hk | hk | hk | hk
    · have F3 := told (a := 0) _ 0 rfl SI.ex0 (fun w => SK.sineOf_any 0 w)
      clear hk0 hk1
      have ⟨Xc0, Xc1, Xf0, Xf1⟩ := X
      have ⟨Yc0, Yc1, Yf0, Yf1⟩ := Y
      go_wp2_with fail
      refine (F3 _).mono ?_
      rintro e u2 ⟨rfl, Bx⟩
      clear Xc0 Xc1 Xf0 Xf1 Yc0 Yc1 Yf0 Yf1
      have hc : u2.cell? ⟨v3.heap.size + 1, 0, none⟩ = some (.int .i64 (0)) := (Bx.cell (by simp)).trans (by simp [go_sem])
      replace B := SK.below1 (SK.below1 B (SK.below_new (v3.alloc (.cells #[.int .i64 (lo), .int .i64 (hi)] 25)) (.cells #[.int .i64 0, .int .i64 500000000, .int .i64 9, .int .i64 1000000000, .int .i64 9, .int .i64 500000000, .int .i64 0, .int .i64 (-500000000), .int .i64 9, .int .i64 (-1000000000), .int .i64 9, .int .i64 (-500000000)] 3))) Bx
      replace hc := (Below.cell (SK.below_new u2 (.cells #[.int .i64 (0), .int .i64 (0)] 25)) (SK.cell_lt hc)).trans hc
      have Z := SK.Box.new u2 (0) (0) 25
      replace B := SK.below1 B (SK.below_new u2 (.cells #[.int .i64 (0), .int .i64 (0)] 25))
      clear Bx X Y F3
      go_wp2_with fail
      generalize u2.alloc (.cells #[.int .i64 (0), .int .i64 (0)] 25) = u3 at *
      have k0 := cell_regrown Z.c0
      have k1 := cell_regrown Z.c1
      have k2 := cell_regrown hc
      refine KS.region (by kernel_rfl) (by kernel_rfl) ?_
      repeat (refine KS.step (fun K hK => ?_); go_simp; refine hK _ ?_; clear hK K)
      refine KS.nil ?_
      rintro _ ⟨p', rfl⟩
      go_wp2
      go_ret
      exact ⟨rfl, SK.below1 B (below_regrown _ _ _)⟩
    · have F3 := told (a := 10800000) _ 21600000 rfl SI.ex1 (fun w => SK.sineOf_any 10800000 w)
      clear hk0 hk1
      have ⟨Xc0, Xc1, Xf0, Xf1⟩ := X
      have ⟨Yc0, Yc1, Yf0, Yf1⟩ := Y
      go_wp2_with fail
      refine (F3 _).mono ?_
      rintro e u2 ⟨rfl, Bx⟩
      clear Xc0 Xc1 Xf0 Xf1 Yc0 Yc1 Yf0 Yf1
      have hc : u2.cell? ⟨v3.heap.size + 1, 1, none⟩ = some (.int .i64 (500000000)) := (Bx.cell (by simp)).trans (by simp [go_sem])
      replace B := SK.below1 (SK.below1 B (SK.below_new (v3.alloc (.cells #[.int .i64 (lo), .int .i64 (hi)] 25)) (.cells #[.int .i64 0, .int .i64 500000000, .int .i64 9, .int .i64 1000000000, .int .i64 9, .int .i64 500000000, .int .i64 0, .int .i64 (-500000000), .int .i64 9, .int .i64 (-1000000000), .int .i64 9, .int .i64 (-500000000)] 3))) Bx
      replace hc := (Below.cell (SK.below_new u2 (.cells #[.int .i64 (500000000), .int .i64 (500000000)] 25)) (SK.cell_lt hc)).trans hc
      have Z := SK.Box.new u2 (500000000) (500000000) 25
      replace B := SK.below1 B (SK.below_new u2 (.cells #[.int .i64 (500000000), .int .i64 (500000000)] 25))
      clear Bx X Y F3
      go_wp2_with fail
      generalize u2.alloc (.cells #[.int .i64 (500000000), .int .i64 (500000000)] 25) = u3 at *
      have k0 := cell_regrown Z.c0
      have k1 := cell_regrown Z.c1
      have k2 := cell_regrown hc
      refine KS.region (by kernel_rfl) (by kernel_rfl) ?_
      repeat (refine KS.step (fun K hK => ?_); go_simp; refine hK _ ?_; clear hK K)
      refine KS.nil ?_
      rintro _ ⟨p', rfl⟩
      go_wp2
      go_ret
      exact ⟨rfl, SK.below1 B (below_regrown _ _ _)⟩
    · obtain ⟨p, q, hpq, F3⟩ := wide (a := 21600000) 43200000 rfl SI.ex2 (fun w => SK.sineOf_any 21600000 w)
      clear hk0 hk1
      have ⟨Xc0, Xc1, Xf0, Xf1⟩ := X
      have ⟨Yc0, Yc1, Yf0, Yf1⟩ := Y
      go_wp2_with fail
      refine (F3 _).mono ?_
      rintro e u2 ⟨rfl, Bx⟩
      clear Xc0 Xc1 Xf0 Xf1 Yc0 Yc1 Yf0 Yf1
      have hc : u2.cell? ⟨v3.heap.size + 1, 2, none⟩ = some (.int .i64 (9)) := (Bx.cell (by simp)).trans (by simp [go_sem])
      replace B := SK.below1 (SK.below1 B (SK.below_new (v3.alloc (.cells #[.int .i64 (lo), .int .i64 (hi)] 25)) (.cells #[.int .i64 0, .int .i64 500000000, .int .i64 9, .int .i64 1000000000, .int .i64 9, .int .i64 500000000, .int .i64 0, .int .i64 (-500000000), .int .i64 9, .int .i64 (-1000000000), .int .i64 9, .int .i64 (-500000000)] 3))) Bx
      replace hc := (Below.cell (SK.below_new u2 (.cells #[.int .i64 (p), .int .i64 (q)] 25)) (SK.cell_lt hc)).trans hc
      have Z := SK.Box.new u2 (p) (q) 25
      replace B := SK.below1 B (SK.below_new u2 (.cells #[.int .i64 (p), .int .i64 (q)] 25))
      clear Bx X Y F3
      go_wp2_with fail
      generalize u2.alloc (.cells #[.int .i64 (p), .int .i64 (q)] 25) = u3 at *
      have k0 := cell_regrown Z.c0
      have k1 := cell_regrown Z.c1
      have k2 := cell_regrown hc
      refine KS.region (by kernel_rfl) (by kernel_rfl) ?_
      repeat (refine KS.step (fun K hK => ?_); go_simp; refine hK _ ?_; clear hK K)
      refine KS.nil ?_
      rintro _ ⟨p', rfl⟩
      go_wp2
      go_ret
      exact ⟨rfl, SK.below1 B (below_regrown _ _ _)⟩
    · have F3 := told (a := 32400000) _ 64800000 rfl SI.ex3 (fun w => SK.sineOf_any 32400000 w)
      clear hk0 hk1
      have ⟨Xc0, Xc1, Xf0, Xf1⟩ := X
      have ⟨Yc0, Yc1, Yf0, Yf1⟩ := Y
      go_wp2_with fail
      refine (F3 _).mono ?_
      rintro e u2 ⟨rfl, Bx⟩
      clear Xc0 Xc1 Xf0 Xf1 Yc0 Yc1 Yf0 Yf1
      have hc : u2.cell? ⟨v3.heap.size + 1, 3, none⟩ = some (.int .i64 (1000000000)) := (Bx.cell (by simp)).trans (by simp [go_sem])
      replace B := SK.below1 (SK.below1 B (SK.below_new (v3.alloc (.cells #[.int .i64 (lo), .int .i64 (hi)] 25)) (.cells #[.int .i64 0, .int .i64 500000000, .int .i64 9, .int .i64 1000000000, .int .i64 9, .int .i64 500000000, .int .i64 0, .int .i64 (-500000000), .int .i64 9, .int .i64 (-1000000000), .int .i64 9, .int .i64 (-500000000)] 3))) Bx
      replace hc := (Below.cell (SK.below_new u2 (.cells #[.int .i64 (1000000000), .int .i64 (1000000000)] 25)) (SK.cell_lt hc)).trans hc
      have Z := SK.Box.new u2 (1000000000) (1000000000) 25
      replace B := SK.below1 B (SK.below_new u2 (.cells #[.int .i64 (1000000000), .int .i64 (1000000000)] 25))
      clear Bx X Y F3
      go_wp2_with fail
      generalize u2.alloc (.cells #[.int .i64 (1000000000), .int .i64 (1000000000)] 25) = u3 at *
      have k0 := cell_regrown Z.c0
      have k1 := cell_regrown Z.c1
      have k2 := cell_regrown hc
      refine KS.region (by kernel_rfl) (by kernel_rfl) ?_
      repeat (refine KS.step (fun K hK => ?_); go_simp; refine hK _ ?_; clear hK K)
      refine KS.nil ?_
      rintro _ ⟨p', rfl⟩
      go_wp2
      go_ret
      exact ⟨rfl, SK.below1 B (below_regrown _ _ _)⟩
    · obtain ⟨p, q, hpq, F3⟩ := wide (a := 43200000) 86400000 rfl SI.ex4 (fun w => SK.sineOf_any 43200000 w)
      clear hk0 hk1
      have ⟨Xc0, Xc1, Xf0, Xf1⟩ := X
      have ⟨Yc0, Yc1, Yf0, Yf1⟩ := Y
      go_wp2_with fail
      refine (F3 _).mono ?_
      rintro e u2 ⟨rfl, Bx⟩
      clear Xc0 Xc1 Xf0 Xf1 Yc0 Yc1 Yf0 Yf1
      have hc : u2.cell? ⟨v3.heap.size + 1, 4, none⟩ = some (.int .i64 (9)) := (Bx.cell (by simp)).trans (by simp [go_sem])
      replace B := SK.below1 (SK.below1 B (SK.below_new (v3.alloc (.cells #[.int .i64 (lo), .int .i64 (hi)] 25)) (.cells #[.int .i64 0, .int .i64 500000000, .int .i64 9, .int .i64 1000000000, .int .i64 9, .int .i64 500000000, .int .i64 0, .int .i64 (-500000000), .int .i64 9, .int .i64 (-1000000000), .int .i64 9, .int .i64 (-500000000)] 3))) Bx
      replace hc := (Below.cell (SK.below_new u2 (.cells #[.int .i64 (p), .int .i64 (q)] 25)) (SK.cell_lt hc)).trans hc
      have Z := SK.Box.new u2 (p) (q) 25
      replace B := SK.below1 B (SK.below_new u2 (.cells #[.int .i64 (p), .int .i64 (q)] 25))
      clear Bx X Y F3
      go_wp2_with fail
      generalize u2.alloc (.cells #[.int .i64 (p), .int .i64 (q)] 25) = u3 at *
      have k0 := cell_regrown Z.c0
      have k1 := cell_regrown Z.c1
      have k2 := cell_regrown hc
      refine KS.region (by kernel_rfl) (by kernel_rfl) ?_
      repeat (refine KS.step (fun K hK => ?_); go_simp; refine hK _ ?_; clear hK K)
      refine KS.nil ?_
      rintro _ ⟨p', rfl⟩
      go_wp2
      go_ret
      exact ⟨rfl, SK.below1 B (below_regrown _ _ _)⟩
    · have F3 := told (a := 54000000) _ 108000000 rfl SI.ex5 (fun w => SK.sineOf_any 54000000 w)
      clear hk0 hk1
      have ⟨Xc0, Xc1, Xf0, Xf1⟩ := X
      have ⟨Yc0, Yc1, Yf0, Yf1⟩ := Y
      go_wp2_with fail
      refine (F3 _).mono ?_
      rintro e u2 ⟨rfl, Bx⟩
      clear Xc0 Xc1 Xf0 Xf1 Yc0 Yc1 Yf0 Yf1
      have hc : u2.cell? ⟨v3.heap.size + 1, 5, none⟩ = some (.int .i64 (500000000)) := (Bx.cell (by simp)).trans (by simp [go_sem])
      replace B := SK.below1 (SK.below1 B (SK.below_new (v3.alloc (.cells #[.int .i64 (lo), .int .i64 (hi)] 25)) (.cells #[.int .i64 0, .int .i64 500000000, .int .i64 9, .int .i64 1000000000, .int .i64 9, .int .i64 500000000, .int .i64 0, .int .i64 (-500000000), .int .i64 9, .int .i64 (-1000000000), .int .i64 9, .int .i64 (-500000000)] 3))) Bx
      replace hc := (Below.cell (SK.below_new u2 (.cells #[.int .i64 (500000000), .int .i64 (500000000)] 25)) (SK.cell_lt hc)).trans hc
      have Z := SK.Box.new u2 (500000000) (500000000) 25
      replace B := SK.below1 B (SK.below_new u2 (.cells #[.int .i64 (500000000), .int .i64 (500000000)] 25))
      clear Bx X Y F3
      go_wp2_with fail
      generalize u2.alloc (.cells #[.int .i64 (500000000), .int .i64 (500000000)] 25) = u3 at *
      have k0 := cell_regrown Z.c0
      have k1 := cell_regrown Z.c1
      have k2 := cell_regrown hc
      refine KS.region (by kernel_rfl) (by kernel_rfl) ?_
      repeat (refine KS.step (fun K hK => ?_); go_simp; refine hK _ ?_; clear hK K)
      refine KS.nil ?_
      rintro _ ⟨p', rfl⟩
      go_wp2
      go_ret
      exact ⟨rfl, SK.below1 B (below_regrown _ _ _)⟩
    · have F3 := told (a := 64800000) _ 129600000 rfl SI.ex6 (fun w => SK.sineOf_any 64800000 w)
      clear hk0 hk1
      have ⟨Xc0, Xc1, Xf0, Xf1⟩ := X
      have ⟨Yc0, Yc1, Yf0, Yf1⟩ := Y
      go_wp2_with fail
      refine (F3 _).mono ?_
      rintro e u2 ⟨rfl, Bx⟩
      clear Xc0 Xc1 Xf0 Xf1 Yc0 Yc1 Yf0 Yf1
      have hc : u2.cell? ⟨v3.heap.size + 1, 6, none⟩ = some (.int .i64 (0)) := (Bx.cell (by simp)).trans (by simp [go_sem])
      replace B := SK.below1 (SK.below1 B (SK.below_new (v3.alloc (.cells #[.int .i64 (lo), .int .i64 (hi)] 25)) (.cells #[.int .i64 0, .int .i64 500000000, .int .i64 9, .int .i64 1000000000, .int .i64 9, .int .i64 500000000, .int .i64 0, .int .i64 (-500000000), .int .i64 9, .int .i64 (-1000000000), .int .i64 9, .int .i64 (-500000000)] 3))) Bx
      replace hc := (Below.cell (SK.below_new u2 (.cells #[.int .i64 (0), .int .i64 (0)] 25)) (SK.cell_lt hc)).trans hc
      have Z := SK.Box.new u2 (0) (0) 25
      replace B := SK.below1 B (SK.below_new u2 (.cells #[.int .i64 (0), .int .i64 (0)] 25))
      clear Bx X Y F3
      go_wp2_with fail
      generalize u2.alloc (.cells #[.int .i64 (0), .int .i64 (0)] 25) = u3 at *
      have k0 := cell_regrown Z.c0
      have k1 := cell_regrown Z.c1
      have k2 := cell_regrown hc
      refine KS.region (by kernel_rfl) (by kernel_rfl) ?_
      repeat (refine KS.step (fun K hK => ?_); go_simp; refine hK _ ?_; clear hK K)
      refine KS.nil ?_
      rintro _ ⟨p', rfl⟩
      go_wp2
      go_ret
      exact ⟨rfl, SK.below1 B (below_regrown _ _ _)⟩
    · have F3 := told (a := 75600000) _ 151200000 rfl SI.ex7 (fun w => SK.sineOf_any 75600000 w)
      clear hk0 hk1
      have ⟨Xc0, Xc1, Xf0, Xf1⟩ := X
      have ⟨Yc0, Yc1, Yf0, Yf1⟩ := Y
      go_wp2_with fail
      refine (F3 _).mono ?_
      rintro e u2 ⟨rfl, Bx⟩
      clear Xc0 Xc1 Xf0 Xf1 Yc0 Yc1 Yf0 Yf1
      have hc : u2.cell? ⟨v3.heap.size + 1, 7, none⟩ = some (.int .i64 (-500000000)) := (Bx.cell (by simp)).trans (by simp [go_sem])
      replace B := SK.below1 (SK.below1 B (SK.below_new (v3.alloc (.cells #[.int .i64 (lo), .int .i64 (hi)] 25)) (.cells #[.int .i64 0, .int .i64 500000000, .int .i64 9, .int .i64 1000000000, .int .i64 9, .int .i64 500000000, .int .i64 0, .int .i64 (-500000000), .int .i64 9, .int .i64 (-1000000000), .int .i64 9, .int .i64 (-500000000)] 3))) Bx
      replace hc := (Below.cell (SK.below_new u2 (.cells #[.int .i64 (-500000000), .int .i64 (-500000000)] 25)) (SK.cell_lt hc)).trans hc
      have Z := SK.Box.new u2 (-500000000) (-500000000) 25
      replace B := SK.below1 B (SK.below_new u2 (.cells #[.int .i64 (-500000000), .int .i64 (-500000000)] 25))
      clear Bx X Y F3
      go_wp2_with fail
      generalize u2.alloc (.cells #[.int .i64 (-500000000), .int .i64 (-500000000)] 25) = u3 at *
      have k0 := cell_regrown Z.c0
      have k1 := cell_regrown Z.c1
      have k2 := cell_regrown hc
      refine KS.region (by kernel_rfl) (by kernel_rfl) ?_
      repeat (refine KS.step (fun K hK => ?_); go_simp; refine hK _ ?_; clear hK K)
      refine KS.nil ?_
      rintro _ ⟨p', rfl⟩
      go_wp2
      go_ret
      exact ⟨rfl, SK.below1 B (below_regrown _ _ _)⟩
    · obtain ⟨p, q, hpq, F3⟩ := wide (a := 86400000) 172800000 rfl SI.ex8 (fun w => SK.sineOf_any 86400000 w)
      clear hk0 hk1
      have ⟨Xc0, Xc1, Xf0, Xf1⟩ := X
      have ⟨Yc0, Yc1, Yf0, Yf1⟩ := Y
      go_wp2_with fail
      refine (F3 _).mono ?_
      rintro e u2 ⟨rfl, Bx⟩
      clear Xc0 Xc1 Xf0 Xf1 Yc0 Yc1 Yf0 Yf1
      have hc : u2.cell? ⟨v3.heap.size + 1, 8, none⟩ = some (.int .i64 (9)) := (Bx.cell (by simp)).trans (by simp [go_sem])
      replace B := SK.below1 (SK.below1 B (SK.below_new (v3.alloc (.cells #[.int .i64 (lo), .int .i64 (hi)] 25)) (.cells #[.int .i64 0, .int .i64 500000000, .int .i64 9, .int .i64 1000000000, .int .i64 9, .int .i64 500000000, .int .i64 0, .int .i64 (-500000000), .int .i64 9, .int .i64 (-1000000000), .int .i64 9, .int .i64 (-500000000)] 3))) Bx
      replace hc := (Below.cell (SK.below_new u2 (.cells #[.int .i64 (p), .int .i64 (q)] 25)) (SK.cell_lt hc)).trans hc
      have Z := SK.Box.new u2 (p) (q) 25
      replace B := SK.below1 B (SK.below_new u2 (.cells #[.int .i64 (p), .int .i64 (q)] 25))
      clear Bx X Y F3
      go_wp2_with fail
      generalize u2.alloc (.cells #[.int .i64 (p), .int .i64 (q)] 25) = u3 at *
      have k0 := cell_regrown Z.c0
      have k1 := cell_regrown Z.c1
      have k2 := cell_regrown hc
      refine KS.region (by kernel_rfl) (by kernel_rfl) ?_
      repeat (refine KS.step (fun K hK => ?_); go_simp; refine hK _ ?_; clear hK K)
      refine KS.nil ?_
      rintro _ ⟨p', rfl⟩
      go_wp2
      go_ret
      exact ⟨rfl, SK.below1 B (below_regrown _ _ _)⟩
    · have F3 := told (a := 97200000) _ 194400000 rfl SI.ex9 (fun w => SK.sineOf_any 97200000 w)
      clear hk0 hk1
      have ⟨Xc0, Xc1, Xf0, Xf1⟩ := X
      have ⟨Yc0, Yc1, Yf0, Yf1⟩ := Y
      go_wp2_with fail
      refine (F3 _).mono ?_
      rintro e u2 ⟨rfl, Bx⟩
      clear Xc0 Xc1 Xf0 Xf1 Yc0 Yc1 Yf0 Yf1
      have hc : u2.cell? ⟨v3.heap.size + 1, 9, none⟩ = some (.int .i64 (-1000000000)) := (Bx.cell (by simp)).trans (by simp [go_sem])
      replace B := SK.below1 (SK.below1 B (SK.below_new (v3.alloc (.cells #[.int .i64 (lo), .int .i64 (hi)] 25)) (.cells #[.int .i64 0, .int .i64 500000000, .int .i64 9, .int .i64 1000000000, .int .i64 9, .int .i64 500000000, .int .i64 0, .int .i64 (-500000000), .int .i64 9, .int .i64 (-1000000000), .int .i64 9, .int .i64 (-500000000)] 3))) Bx
      replace hc := (Below.cell (SK.below_new u2 (.cells #[.int .i64 (-1000000000), .int .i64 (-1000000000)] 25)) (SK.cell_lt hc)).trans hc
      have Z := SK.Box.new u2 (-1000000000) (-1000000000) 25
      replace B := SK.below1 B (SK.below_new u2 (.cells #[.int .i64 (-1000000000), .int .i64 (-1000000000)] 25))
      clear Bx X Y F3
      go_wp2_with fail
      generalize u2.alloc (.cells #[.int .i64 (-1000000000), .int .i64 (-1000000000)] 25) = u3 at *
      have k0 := cell_regrown Z.c0
      have k1 := cell_regrown Z.c1
      have k2 := cell_regrown hc
      refine KS.region (by kernel_rfl) (by kernel_rfl) ?_
      repeat (refine KS.step (fun K hK => ?_); go_simp; refine hK _ ?_; clear hK K)
      refine KS.nil ?_
      rintro _ ⟨p', rfl⟩
      go_wp2
      go_ret
      exact ⟨rfl, SK.below1 B (below_regrown _ _ _)⟩
    · obtain ⟨p, q, hpq, F3⟩ := wide (a := 108000000) 216000000 rfl SI.ex10 (fun w => SK.sineOf_any 108000000 w)
      clear hk0 hk1
      have ⟨Xc0, Xc1, Xf0, Xf1⟩ := X
      have ⟨Yc0, Yc1, Yf0, Yf1⟩ := Y
      go_wp2_with fail
      refine (F3 _).mono ?_
      rintro e u2 ⟨rfl, Bx⟩
      clear Xc0 Xc1 Xf0 Xf1 Yc0 Yc1 Yf0 Yf1
      have hc : u2.cell? ⟨v3.heap.size + 1, 10, none⟩ = some (.int .i64 (9)) := (Bx.cell (by simp)).trans (by simp [go_sem])
      replace B := SK.below1 (SK.below1 B (SK.below_new (v3.alloc (.cells #[.int .i64 (lo), .int .i64 (hi)] 25)) (.cells #[.int .i64 0, .int .i64 500000000, .int .i64 9, .int .i64 1000000000, .int .i64 9, .int .i64 500000000, .int .i64 0, .int .i64 (-500000000), .int .i64 9, .int .i64 (-1000000000), .int .i64 9, .int .i64 (-500000000)] 3))) Bx
      replace hc := (Below.cell (SK.below_new u2 (.cells #[.int .i64 (p), .int .i64 (q)] 25)) (SK.cell_lt hc)).trans hc
      have Z := SK.Box.new u2 (p) (q) 25
      replace B := SK.below1 B (SK.below_new u2 (.cells #[.int .i64 (p), .int .i64 (q)] 25))
      clear Bx X Y F3
      go_wp2_with fail
      generalize u2.alloc (.cells #[.int .i64 (p), .int .i64 (q)] 25) = u3 at *
      have k0 := cell_regrown Z.c0
      have k1 := cell_regrown Z.c1
      have k2 := cell_regrown hc
      refine KS.region (by kernel_rfl) (by kernel_rfl) ?_
      repeat (refine KS.step (fun K hK => ?_); go_simp; refine hK _ ?_; clear hK K)
      refine KS.nil ?_
      rintro _ ⟨p', rfl⟩
      go_wp2
      go_ret
      exact ⟨rfl, SK.below1 B (below_regrown _ _ _)⟩
    · have F3 := told (a := 118800000) _ 237600000 rfl SI.ex11 (fun w => SK.sineOf_any 118800000 w)
      clear hk0 hk1
      have ⟨Xc0, Xc1, Xf0, Xf1⟩ := X
      have ⟨Yc0, Yc1, Yf0, Yf1⟩ := Y
      go_wp2_with fail
      refine (F3 _).mono ?_
      rintro e u2 ⟨rfl, Bx⟩
      clear Xc0 Xc1 Xf0 Xf1 Yc0 Yc1 Yf0 Yf1
      have hc : u2.cell? ⟨v3.heap.size + 1, 11, none⟩ = some (.int .i64 (-500000000)) := (Bx.cell (by simp)).trans (by simp [go_sem])
      replace B := SK.below1 (SK.below1 B (SK.below_new (v3.alloc (.cells #[.int .i64 (lo), .int .i64 (hi)] 25)) (.cells #[.int .i64 0, .int .i64 500000000, .int .i64 9, .int .i64 1000000000, .int .i64 9, .int .i64 500000000, .int .i64 0, .int .i64 (-500000000), .int .i64 9, .int .i64 (-1000000000), .int .i64 9, .int .i64 (-500000000)] 3))) Bx
      replace hc := (Below.cell (SK.below_new u2 (.cells #[.int .i64 (-500000000), .int .i64 (-500000000)] 25)) (SK.cell_lt hc)).trans hc
      have Z := SK.Box.new u2 (-500000000) (-500000000) 25
      replace B := SK.below1 B (SK.below_new u2 (.cells #[.int .i64 (-500000000), .int .i64 (-500000000)] 25))
      clear Bx X Y F3
      go_wp2_with fail
      generalize u2.alloc (.cells #[.int .i64 (-500000000), .int .i64 (-500000000)] 25) = u3 at *
      have k0 := cell_regrown Z.c0
      have k1 := cell_regrown Z.c1
      have k2 := cell_regrown hc
      refine KS.region (by kernel_rfl) (by kernel_rfl) ?_
      repeat (refine KS.step (fun K hK => ?_); go_simp; refine hK _ ?_; clear hK K)
      refine KS.nil ?_
      rintro _ ⟨p', rfl⟩
      go_wp2
      go_ret
      exact ⟨rfl, SK.below1 B (below_regrown _ _ _)⟩
  · go_enter Try.func3, Try.ntmps3
    go_wp2
    go_ret
    exact ⟨rfl, Below.refl _ _⟩

set_option maxRecDepth 100000 in
theorem lifted (os : Os) (started : os.Started) (H : Type) (enc : TypeId × Value → H) :
    ReturnsInHanded {} Try.checked os 3 .any (Rows.fnSineExactSpec.pre6 enc Try.prog Try.f3 Rows.fnSineExactRow.domain false) (Rows.fnSineExactSpec.post enc Try.prog Try.f3 false true false false) := by
  refine returnsInHanded_of_change (C := Try.checked) own started (by kernel_rfl) Try.func3
    (ChangeSpec.witness6 (enc := enc) (C := Try.checked) false ⟨#[], #[.slice none 0 0], []⟩ 8 (by kernel_rfl) (by kernel_rfl) (by kernel_rfl) (by kernel_rfl)) ?_
  intro W base args ds gs before hval0 hW hcnd _
  have hval : ∀ (j : Nat) t v, Try.f3.params[j]? = some t → args[j]? = some v → Value.okWide Try.prog W .any base t v := hval0
  have hW' := hW
  obtain ⟨p, q, hA0, hV, rfl, hfz, hnd⟩ := hW
  have hA : DataW.TrodAll enc Try.prog W 0 (fun _ => true) true Try.f3.params.toList args.toList ds p := hA0
  rw [Try.params3] at hA hval
  obtain ⟨v0, vs0, d0, ds0, p0, q0, hargs, rfl, rfl, h0, r0⟩ := trodAll_cons hA
  obtain ⟨rfl, rfl, rfl⟩ := trodAll_nil r0
  obtain rfl : args = #[v0] := by cases args; simp_all
  obtain ⟨rfl, rfl⟩ := trodVars_none hV
  obtain ⟨a0, len0, cap0, rfl⟩ := okWide_slice Try.underlying22 (hval 0 22 v0 rfl rfl)
  have k0 := h0
  have lt0 : ∀ x ∈ p0, x.block < W.heap.size := by obtain ⟨m, hm⟩ := k0; exact DataW.trod_lt m _ _ _ hm
  obtain ⟨z0, w0⟩ : ∃ zs, IsRow .u8 W a0 len0 cap0 zs := by
    obtain ⟨fuel, hf⟩ := h0
    rcases open_ints Try.underlying22 Try.underlying5 (by kernel_rfl) hf with ⟨hcs, _⟩ | ⟨x, l, c, zs, hcs, _, hl, hm, hz, _, hcell, hwz⟩
    · simp [Value.cells] at hcs
      obtain ⟨rfl, rfl, rfl⟩ := hcs
      exact ⟨[], .inl ⟨rfl, rfl, rfl, rfl⟩⟩
    · simp [Value.cells] at hcs
      obtain ⟨rfl, rfl, rfl⟩ := hcs
      exact ⟨zs, .inr ⟨_, rfl, hl, hm, by simpa using hz, hcell, hwz⟩⟩
  clear hA0 hval0
  refine (walk a0 len0 cap0 z0 W w0).mono fun e W' ⟨he, bel⟩ => ?_
  subst he
  exact ⟨_, rfl, _, _, _, [], _, [], hW', trodAll_mk1 (shut_bool Try.underlying4 _), (trodAll_cons_mk (Below.trod laidOut (by kernel_rfl) (of_decide_eq_true (by kernel_rfl)) k0 bel lt0) trodAll_mk0), rfl, bel.frame _, fun h => by cases h⟩

theorem over : Rows.fnSineExactRow.holds Try.pinned (OpenSpec.ofChange Rows.fnSineExactSpec) :=
  OpenClaim.holds_of_wide 3 Try.f3 rfl rfl rfl rfl rfl rfl rfl ⟨rfl, rfl, rfl, rfl, rfl⟩ rfl rfl rfl rfl rfl (by kernel_rfl) Try.func3 (by kernel_rfl)
    (of_decide_eq_true (by kernel_rfl)) (by unfold Func.isWrapper; first | (rw [if_pos (by decide +kernel)]; kernel_rfl) | (rw [if_neg (by decide +kernel)]; exact ⟨rfl, rfl⟩))
    (fun os started H enc _ => lifted os started H enc)

theorem proved : Rows.FnSineExactSaid := over
end Go.Proofs.Ythefibnjaoimgah.fnSineExact
namespace Go.Proofs.Ythefibnjaoimgah
theorem fnSineExact_holds : Rows.FnSineExactSaid := fnSineExact.proved
#print axioms fnSineExact_holds
end Go.Proofs.Ythefibnjaoimgah
