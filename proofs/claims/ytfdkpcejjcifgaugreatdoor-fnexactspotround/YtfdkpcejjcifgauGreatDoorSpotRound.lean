/-
  What both sides' SpotRound return.
-/
import Derived.Test.YtfdkpcejjcifgauGreatDoorSpotMemo3
import Derived.Test.YtfdkpcejjcifgauGreatDoorFanImpl
namespace Go.Proofs.YtfdkpcejjcifgauGreatDoor
open Go.RowKit Go.Sort
set_option linter.unusedVariables false
namespace SK
def srB (a l b m p y : Int) : Bool := (okP a l && okP b m) && frB (SI.dsL a l b m) (SI.dsH a l b m) p y
def srV (a l b m p y : Int) : Int := SM.sel (srB a l b m p y) (frV (SI.dsL a l b m) (SI.dsH a l b m) p y)
theorem sr_yes {a l b m p y : Int} (h : (okP a l && okP b m) = true) : srV a l b m p y = frV (SI.dsL a l b m) (SI.dsH a l b m) p y := by
  unfold srV
  cases e : frB (SI.dsL a l b m) (SI.dsH a l b m) p y
  · have z : srB a l b m p y = false := by unfold srB; rw [e, Bool.and_false]
    rw [z, fr_no e]
    rfl
  · have z : srB a l b m p y = true := by unfold srB; rw [h, e]; rfl
    rw [z]
    rfl
set_option maxHeartbeats 1000000 in
theorem sSpotRound_any (a l b m p y : Int) (w : World) : Calls Tryz.prog 4 #[spV a l, spV b m, .int .i64 p, .int .i64 y] w fun e w' => e = .returned (.tuple #[.int .i64 (srV a l b m p y), .bool (srB a l b m p y)]) ∧ Below w.heap.size w w' := by
  cases h : (okP a l && okP b m)
  · have F1 : ∀ w, Calls Tryz.prog 7 #[spV a l, spV b m] w fun e w' => e = .returned (.tuple #[spV (0) (0), .bool false]) ∧ Below w.heap.size w w' := fun w => by have := sSpotDist_any a l b m w; rw [h] at this; exact this
    have E : Hide (srB a l b m p y = false) := ⟨by unfold srB; rw [h]; rfl⟩
    rw [E.out, show srV a l b m p y = 0 by unfold srV; rw [E.out]; rfl]
    clear E h
    have P := (Box.new w a l 26).alloc (.cells #[.int .i64 b, .int .i64 m] 26)
    have Q := Box.new2 w (.cells #[.int .i64 a, .int .i64 l] 26) b m 26
    have B := below_new2 w (.cells #[.int .i64 a, .int .i64 l] 26) (.cells #[.int .i64 b, .int .i64 m] 26)
    go_enter Tryz.func4, Tryz.ntmps4
    have ⟨P0, P1, P2, P3⟩ := P
    have ⟨Q0, Q1, Q2, Q3⟩ := Q
    go_wp2_with fail
    refine (F1 _).mono ?_
    rintro e w1 ⟨rfl, B1⟩
    clear P0 P1 P2 P3 Q0 Q1 Q2 Q3 P Q
    replace B := below1 B B1
    clear B1 F1
    replace B := below1 B (below_new w1 (.cells #[.int .i64 0, .int .i64 0] 30))
    go_wp2
    go_ret2
    exact ⟨rfl, B⟩
  · have F1 : ∀ w, Calls Tryz.prog 7 #[spV a l, spV b m] w fun e w' => e = .returned (.tuple #[spV (SI.dsL a l b m) (SI.dsH a l b m), .bool true]) ∧ Below w.heap.size w w' := fun w => by have := sSpotDist_any a l b m w; rw [h] at this; exact this
    have F2 : ∀ w, Calls Tryz.prog 8 #[spV (SI.dsL a l b m) (SI.dsH a l b m), .int .i64 p, .int .i64 y] w fun e w' => e = .returned (.tuple #[.int .i64 (frV (SI.dsL a l b m) (SI.dsH a l b m) p y), .bool (frB (SI.dsL a l b m) (SI.dsH a l b m) p y)]) ∧ Below w.heap.size w w' := fun w => sFanRound_any (SI.dsL a l b m) (SI.dsH a l b m) p y w
    rw [show srB a l b m p y = frB (SI.dsL a l b m) (SI.dsH a l b m) p y by unfold srB; rw [h]; rfl, sr_yes h]
    clear h
    generalize frV (SI.dsL a l b m) (SI.dsH a l b m) p y = u at *
    generalize frB (SI.dsL a l b m) (SI.dsH a l b m) p y = v at *
    generalize SI.dsL a l b m = lo at *
    generalize SI.dsH a l b m = hi at *
    have P := (Box.new w a l 26).alloc (.cells #[.int .i64 b, .int .i64 m] 26)
    have Q := Box.new2 w (.cells #[.int .i64 a, .int .i64 l] 26) b m 26
    have B := below_new2 w (.cells #[.int .i64 a, .int .i64 l] 26) (.cells #[.int .i64 b, .int .i64 m] 26)
    go_enter Tryz.func4, Tryz.ntmps4
    have ⟨P0, P1, P2, P3⟩ := P
    have ⟨Q0, Q1, Q2, Q3⟩ := Q
    go_wp2_with fail
    refine (F1 _).mono ?_
    rintro e w1 ⟨rfl, B1⟩
    clear P0 P1 P2 P3 Q0 Q1 Q2 Q3 P Q
    replace B := below1 B B1
    clear B1 F1
    have X := Box.new w1 lo hi 30
    replace B := below1 B (below_new w1 (.cells #[.int .i64 lo, .int .i64 hi] 30))
    have ⟨X0, X1, X2, X3⟩ := X
    go_wp2_with fail
    refine (F2 _).mono ?_
    rintro e w2 ⟨rfl, B2⟩
    replace B := below1 B B2
    clear X0 X1 X2 X3 X B2 F2
    go_wp2
    go_ret2
    exact ⟨rfl, B⟩
set_option maxHeartbeats 1000000 in
theorem spotRound_any (a l b m p y : Int) (sa : Addr) (w : World) (hs : SW.Sn sa w) : Calls Tryz.prog 6 #[spV a l, spV b m, .int .i64 p, .int .i64 y] w fun e w' => e = .returned (.tuple #[.int .i64 (srV a l b m p y), .bool (srB a l b m p y)]) ∧ Below w.heap.size w w' := by
  cases h : (okP a l && okP b m)
  · have F1 : ∀ w, SW.Sn sa w → Calls Tryz.prog 9 #[spV a l, spV b m] w fun e w' => e = .returned (.tuple #[spV (0) (0), .bool false]) ∧ Below w.heap.size w w' := fun w hs => by have := spotDist_any a l b m sa w hs; rw [h] at this; exact this
    have E : Hide (srB a l b m p y = false) := ⟨by unfold srB; rw [h]; rfl⟩
    rw [E.out, show srV a l b m p y = 0 by unfold srV; rw [E.out]; rfl]
    clear E h
    have P := (Box.new w a l 26).alloc (.cells #[.int .i64 b, .int .i64 m] 26)
    have Q := Box.new2 w (.cells #[.int .i64 a, .int .i64 l] 26) b m 26
    have B := below_new2 w (.cells #[.int .i64 a, .int .i64 l] 26) (.cells #[.int .i64 b, .int .i64 m] 26)
    go_enter Tryz.func6, Tryz.ntmps6
    have ⟨P0, P1, P2, P3⟩ := P
    have ⟨Q0, Q1, Q2, Q3⟩ := Q
    go_wp2_with fail
    refine (F1 _ (hs.kept B)).mono ?_
    rintro e w1 ⟨rfl, B1⟩
    clear P0 P1 P2 P3 Q0 Q1 Q2 Q3 P Q
    replace B := below1 B B1
    clear B1 F1
    replace B := below1 B (below_new w1 (.cells #[.int .i64 0, .int .i64 0] 30))
    go_wp2
    go_ret2
    exact ⟨rfl, B⟩
  · have F1 : ∀ w, SW.Sn sa w → Calls Tryz.prog 9 #[spV a l, spV b m] w fun e w' => e = .returned (.tuple #[spV (SI.dsL a l b m) (SI.dsH a l b m), .bool true]) ∧ Below w.heap.size w w' := fun w hs => by have := spotDist_any a l b m sa w hs; rw [h] at this; exact this
    have F2 : ∀ w, SW.Sn sa w → Calls Tryz.prog 10 #[spV (SI.dsL a l b m) (SI.dsH a l b m), .int .i64 p, .int .i64 y] w fun e w' => e = .returned (.tuple #[.int .i64 (frV (SI.dsL a l b m) (SI.dsH a l b m) p y), .bool (frB (SI.dsL a l b m) (SI.dsH a l b m) p y)]) ∧ Below w.heap.size w w' := fun w hs => fanRound_any (SI.dsL a l b m) (SI.dsH a l b m) p y sa w hs
    rw [show srB a l b m p y = frB (SI.dsL a l b m) (SI.dsH a l b m) p y by unfold srB; rw [h]; rfl, sr_yes h]
    clear h
    generalize frV (SI.dsL a l b m) (SI.dsH a l b m) p y = u at *
    generalize frB (SI.dsL a l b m) (SI.dsH a l b m) p y = v at *
    generalize SI.dsL a l b m = lo at *
    generalize SI.dsH a l b m = hi at *
    have P := (Box.new w a l 26).alloc (.cells #[.int .i64 b, .int .i64 m] 26)
    have Q := Box.new2 w (.cells #[.int .i64 a, .int .i64 l] 26) b m 26
    have B := below_new2 w (.cells #[.int .i64 a, .int .i64 l] 26) (.cells #[.int .i64 b, .int .i64 m] 26)
    go_enter Tryz.func6, Tryz.ntmps6
    have ⟨P0, P1, P2, P3⟩ := P
    have ⟨Q0, Q1, Q2, Q3⟩ := Q
    go_wp2_with fail
    refine (F1 _ (hs.kept B)).mono ?_
    rintro e w1 ⟨rfl, B1⟩
    clear P0 P1 P2 P3 Q0 Q1 Q2 Q3 P Q
    replace B := below1 B B1
    clear B1 F1
    have X := Box.new w1 lo hi 30
    replace B := below1 B (below_new w1 (.cells #[.int .i64 lo, .int .i64 hi] 30))
    have ⟨X0, X1, X2, X3⟩ := X
    go_wp2_with fail
    refine (F2 _ (hs.kept B)).mono ?_
    rintro e w2 ⟨rfl, B2⟩
    replace B := below1 B B2
    clear X0 X1 X2 X3 X B2 F2
    go_wp2
    go_ret2
    exact ⟨rfl, B⟩
end SK
end Go.Proofs.YtfdkpcejjcifgauGreatDoor
