/-
  Tangents: what both sides' TanOf return.
-/
import Derived.Test.YthefibnjaoimgaiDoorSineImpl
import Derived.Test.YthefibnjaoimgaiDoorSpanWalks3
import Derived.Test.YthefibnjaoimgaiDoorSineMul
namespace Go.Proofs.YthefibnjaoimgaiDoor
open Go.RowKit Go.Sort
set_option linter.unusedVariables false
namespace SK
/-- The sine and the cosine of an angle, and whether it has a tangent. -/
abbrev sL (a : Int) : Int := SI.siL (2 * a)
abbrev sH (a : Int) : Int := SI.siH (2 * a)
abbrev cL (a : Int) : Int := SI.siL (2 * a + 64800000)
abbrev cH (a : Int) : Int := SI.siH (2 * a + 64800000)
def tanB (a : Int) : Bool := okA a && SM.divB (sL a) (sH a) (cL a) (cH a)
def tanL (a : Int) : Int := SM.sel (tanB a) (SM.divLo (sL a) (sH a) (cL a) (cH a))
def tanH (a : Int) : Int := SM.sel (tanB a) (SM.divHi (sL a) (sH a) (cL a) (cH a))
theorem tan_no {a : Int} (h : okA a = false) : tanB a = false ∧ tanL a = 0 ∧ tanH a = 0 := by
  have e : tanB a = false := by unfold tanB; rw [h]; rfl
  unfold tanL tanH
  rw [e]
  exact ⟨rfl, rfl, rfl⟩
theorem tan_yes {a : Int} (h : okA a = true) : tanB a = SM.divB (sL a) (sH a) (cL a) (cH a) ∧ tanL a = SM.sel (SM.divB (sL a) (sH a) (cL a) (cH a)) (SM.divLo (sL a) (sH a) (cL a) (cH a)) ∧ tanH a = SM.sel (SM.divB (sL a) (sH a) (cL a) (cH a)) (SM.divHi (sL a) (sH a) (cL a) (cH a)) := by
  have e : tanB a = SM.divB (sL a) (sH a) (cL a) (cH a) := by unfold tanB; rw [h]; rfl
  unfold tanL tanH
  rw [e]
  exact ⟨rfl, rfl, rfl⟩
theorem sTanOf_any (a : Int) (w : World) :
    Calls Tryd.prog 21 #[.int .i64 a] w fun e w' => e = .returned (.tuple #[spV (tanL a) (tanH a), .bool (tanB a)]) ∧ Below w.heap.size w w' := by
  have S := fun w => sSineOf_any a w
  have C := fun w => sCosOf_any a w
  cases h : okA a
  · rw [h] at S C
    obtain ⟨e1, e2, e3⟩ := tan_no h
    rw [e1, e2, e3]
    simp only [SM.sel] at S C
    go_enter Tryd.func21, Tryd.ntmps21
    go_wp2_with fail
    refine (S _).mono ?_
    rintro e w1 ⟨rfl, B1⟩
    have R := ((Box.new w 0 0 25).kept B1).alloc (.cells #[.int .i64 0, .int .i64 0] 25)
    have X := Box.new w1 0 0 25
    have B := below1 (below1 (below_new w (.cells #[.int .i64 0, .int .i64 0] 25)) B1) (below_new w1 (.cells #[.int .i64 0, .int .i64 0] 25))
    go_wp2_with fail
    refine (C _).mono ?_
    rintro e w2 ⟨rfl, B2⟩
    replace R := (R.kept B2).alloc (.cells #[.int .i64 0, .int .i64 0] 25)
    replace B := below1 (below1 B B2) (below_new w2 (.cells #[.int .i64 0, .int .i64 0] 25))
    obtain ⟨r0, r1, r2, r3⟩ := R
    go_wp2
    refine bodyPost_ret (v := .tuple #[.agg #[.int .i64 0, .int .i64 0], .bool false]) (by simp [results, Tryd.results21, go_sem, *]) rfl ⟨rfl, ?_⟩
    exact below_set2 B (Nat.le_refl _) _ _
  · rw [h] at S C
    obtain ⟨e1, e2, e3⟩ := tan_yes h
    rw [e1, e2, e3]
    simp only [SM.sel] at S C
    have D := fun w => SW.sSpanDiv_any (sL a) (sH a) (cL a) (cH a) w
    simp only [sL, sH, cL, cH] at *
    generalize SI.siL (2 * a + 64800000) = r at *
    generalize SI.siH (2 * a + 64800000) = t at *
    generalize SI.siL (2 * a) = p at *
    generalize SI.siH (2 * a) = q at *
    generalize SM.sel (SM.divB p q r t) (SM.divLo p q r t) = dl at *
    generalize SM.sel (SM.divB p q r t) (SM.divHi p q r t) = dh at *
    generalize SM.divB p q r t = db at *
    clear e1 e2 e3
    go_enter Tryd.func21, Tryd.ntmps21
    go_wp2_with fail
    refine (S _).mono ?_
    rintro e w1 ⟨rfl, B1⟩
    have R := ((Box.new w 0 0 25).kept B1).alloc (.cells #[.int .i64 p, .int .i64 q] 25)
    have X := Box.new w1 p q 25
    have B := below1 (below1 (below_new w (.cells #[.int .i64 0, .int .i64 0] 25)) B1) (below_new w1 (.cells #[.int .i64 p, .int .i64 q] 25))
    go_wp2_with fail
    refine (C _).mono ?_
    rintro e w2 ⟨rfl, B2⟩
    replace R := (R.kept B2).alloc (.cells #[.int .i64 r, .int .i64 t] 25)
    replace X := (X.kept B2).alloc (.cells #[.int .i64 r, .int .i64 t] 25)
    have Y := Box.new w2 r t 25
    replace B := below1 (below1 B B2) (below_new w2 (.cells #[.int .i64 r, .int .i64 t] 25))
    obtain ⟨x0, x1, x2, x3⟩ := X
    obtain ⟨y0, y1, y2, y3⟩ := Y
    go_wp2_with fail
    refine (D _).mono ?_
    rintro e w3 ⟨rfl, B3⟩
    replace B := below1 B B3
    obtain ⟨r0, r1, r2, r3⟩ := R.kept B3
    clear x0 x1 x2 x3 y0 y1 y2 y3
    go_wp2
    refine bodyPost_ret (v := .tuple #[.agg #[.int .i64 dl, .int .i64 dh], .bool db]) (by simp [results, Tryd.results21, go_sem, *]) rfl ⟨rfl, ?_⟩
    exact below_set2 B (Nat.le_refl _) _ _
theorem tanOf_any (a : Int) (sa : Addr) (w : World) (hs : SW.Sn sa w) :
    Calls Tryd.prog 22 #[.int .i64 a] w fun e w' => e = .returned (.tuple #[spV (tanL a) (tanH a), .bool (tanB a)]) ∧ Below w.heap.size w w' := by
  have S := fun w => sineOf_any a w
  have C := fun w => cosOf_any a w
  cases h : okA a
  · rw [h] at S C
    obtain ⟨e1, e2, e3⟩ := tan_no h
    rw [e1, e2, e3]
    simp only [SM.sel] at S C
    go_enter Tryd.func22, Tryd.ntmps22
    go_wp2_with fail
    refine (S _).mono ?_
    rintro e w1 ⟨rfl, B1⟩
    have R := ((Box.new w 0 0 25).kept B1).alloc (.cells #[.int .i64 0, .int .i64 0] 25)
    have B := below1 (below1 (below_new w (.cells #[.int .i64 0, .int .i64 0] 25)) B1) (below_new w1 (.cells #[.int .i64 0, .int .i64 0] 25))
    obtain ⟨r0, r1, r2, r3⟩ := R
    go_wp2
    refine bodyPost_ret (v := .tuple #[.agg #[.int .i64 0, .int .i64 0], .bool false]) (by simp [results, Tryd.results22, go_sem, *]) rfl ⟨rfl, ?_⟩
    exact below_set2 B (Nat.le_refl _) _ _
  · rw [h] at S C
    obtain ⟨e1, e2, e3⟩ := tan_yes h
    rw [e1, e2, e3]
    simp only [SM.sel] at S C
    have D := fun w h => SW.spanDiv_any (sL a) (sH a) (cL a) (cH a) sa w h
    simp only [sL, sH, cL, cH] at *
    generalize SI.siL (2 * a + 64800000) = r at *
    generalize SI.siH (2 * a + 64800000) = t at *
    generalize SI.siL (2 * a) = p at *
    generalize SI.siH (2 * a) = q at *
    generalize SM.sel (SM.divB p q r t) (SM.divLo p q r t) = dl at *
    generalize SM.sel (SM.divB p q r t) (SM.divHi p q r t) = dh at *
    generalize SM.divB p q r t = db at *
    clear e1 e2 e3
    go_enter Tryd.func22, Tryd.ntmps22
    go_wp2_with fail
    refine (S _).mono ?_
    rintro e w1 ⟨rfl, B1⟩
    have R := ((Box.new w 0 0 25).kept B1).alloc (.cells #[.int .i64 p, .int .i64 q] 25)
    have X := Box.new w1 p q 25
    have B := below1 (below1 (below_new w (.cells #[.int .i64 0, .int .i64 0] 25)) B1) (below_new w1 (.cells #[.int .i64 p, .int .i64 q] 25))
    go_wp2_with fail
    refine (C _).mono ?_
    rintro e w2 ⟨rfl, B2⟩
    replace R := (R.kept B2).alloc (.cells #[.int .i64 r, .int .i64 t] 25)
    replace X := (X.kept B2).alloc (.cells #[.int .i64 r, .int .i64 t] 25)
    have Y := Box.new w2 r t 25
    replace B := below1 (below1 B B2) (below_new w2 (.cells #[.int .i64 r, .int .i64 t] 25))
    have hs2 := hs.kept B
    obtain ⟨x0, x1, x2, x3⟩ := X
    obtain ⟨y0, y1, y2, y3⟩ := Y
    go_wp2_with fail
    refine (D _ hs2).mono ?_
    rintro e w3 ⟨rfl, B3⟩
    replace B := below1 B B3
    obtain ⟨r0, r1, r2, r3⟩ := R.kept B3
    clear x0 x1 x2 x3 y0 y1 y2 y3
    go_wp2
    refine bodyPost_ret (v := .tuple #[.agg #[.int .i64 dl, .int .i64 dh], .bool db]) (by simp [results, Tryd.results22, go_sem, *]) rfl ⟨rfl, ?_⟩
    exact below_set2 B (Nat.le_refl _) _ _
end SK
end Go.Proofs.YthefibnjaoimgaiDoor
