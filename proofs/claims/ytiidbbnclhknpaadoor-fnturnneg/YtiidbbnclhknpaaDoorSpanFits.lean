/-
  impl's 'fits', 'told' and SpanOk, where the package's variable errTooGreat holds a sentinel.
-/
import Derived.Test.YtiidbbnclhknpaaDoorRows
import Derived.Test.YtiidbbnclhknpaaDoorSpanMath
import Derived.Test.YtiidbbnclhknpaaDoorNumWalks
import Derived.Test.YtiidbbnclhknpaaDoorErrIs
import Derived.WalkKit
import Derived.Below
import Derived.Deep.Draws
import Derived.Lib.QuietBelow
import Derived.Lib.MinMax
namespace Go.Proofs.YtiidbbnclhknpaaDoor
open Go.RowKit Go.Sort
set_option linter.unusedVariables false
namespace SW
open SM

/-- A span, as a value. -/
abbrev spV (l h : Int) : Value := .agg #[.int .i64 l, .int .i64 h]
/-- The package's variable holds a sentinel, at 'a'. -/
def Sn (a : Addr) (w : World) : Prop := w.cell? ⟨0, 0, none⟩ = some (EI.errV a)
theorem Sn.cell {a : Addr} {w : World} (h : Sn a w) : w.cell? ⟨0, 0, none⟩ = some (EI.errV a) := h
theorem wrap_id {n : Int} (h1 : -9223372036854775808 ≤ n) (h2 : n ≤ 9223372036854775807) : IntKind.i64.wrap n = n := by
  simp [IntKind.wrap, IntKind.bits, IntKind.signed]
  omega
theorem cell_lt {w : World} {b o : Nat} {v : Value} (h : w.cell? ⟨b, o, none⟩ = some v) : b < w.heap.size := by
  by_cases c : b < w.heap.size
  · exact c
  · have e : w.heap[b]? = none := by simp; omega
    simp [World.cell?, e] at h
theorem Sn.kept {a : Addr} {w w' : World} (h : Sn a w) (hk : Below w.heap.size w w') : Sn a w' := by
  unfold Sn at *
  rw [hk.cell (cell_lt h)]
  exact h
theorem Sn.alloc {a : Addr} {w : World} (h : Sn a w) (o : Obj) : Sn a (w.alloc o) := h.kept ((Below.refl _ _).alloc (Nat.le_refl _) _)
theorem below_drewN {B : Nat} {a w : World} (h : Below B a w) (m : Nat) : Below B a (w.drewN m) := ⟨h.os, h.tape, h.output, h.size, h.block⟩
theorem le_alloc {n : Nat} {w : World} (o : Obj) (h : n ≤ w.heap.size) : n ≤ (w.alloc o).heap.size := by simp; omega
theorem le_setCell {n : Nat} {w : World} (a : Addr) (v : Value) (h : n ≤ w.heap.size) : n ≤ (w.setCell a v).heap.size := by simpa [World.setCell] using h
theorem le_drewN {n : Nat} {w : World} (m : Nat) (h : n ≤ w.heap.size) : n ≤ (w.drewN m).heap.size := h
theorem le_drew {n : Nat} {w : World} (h : n ≤ w.heap.size) : n ≤ w.drew.heap.size := h
theorem Sn.drewN {a : Addr} {w : World} (h : Sn a w) (m : Nat) : Sn a (w.drewN m) := h

def fitB (l h : Int) : Bool := decide (-1073000000 ≤ l ∧ l ≤ 1073000000 ∧ -1073000000 ≤ h ∧ h ≤ 1073000000)

theorem fits_in (l h : Int) (w : World) (h1 : -1073000000 ≤ l) (h2 : l ≤ 1073000000) (h3 : -1073000000 ≤ h) (h4 : h ≤ 1073000000) :
    Calls Tryd.prog 44 #[spV l h] w fun e w' => e = .returned .nilIface ∧ w' = w.alloc (.cells #[.int .i64 l, .int .i64 h] 26) := by
  go_enter Tryd.func44, Tryd.ntmps44
  go_wp2
  go_ret
  exact ⟨rfl, rfl⟩

theorem fits_out (l h : Int) (a : Addr) (w : World) (hs : Sn a w) (ho : ¬ (-1073000000 ≤ l ∧ l ≤ 1073000000 ∧ -1073000000 ≤ h ∧ h ≤ 1073000000)) :
    Calls Tryd.prog 44 #[spV l h] w fun e w' => e = .returned (EI.errV a) ∧ w' = w.alloc (.cells #[.int .i64 l, .int .i64 h] 26) := by
  have hc := (hs.alloc (.cells #[.int .i64 l, .int .i64 h] 26)).cell
  rcases (show l < -1073000000 ∨ (-1073000000 ≤ l ∧ 1073000000 < l) ∨ (-1073000000 ≤ l ∧ l ≤ 1073000000 ∧ h < -1073000000) ∨ (-1073000000 ≤ l ∧ l ≤ 1073000000 ∧ -1073000000 ≤ h ∧ 1073000000 < h) by omega) with c | ⟨c, d⟩ | ⟨c, d, f⟩ | ⟨c, d, f, g⟩
  all_goals go_enter Tryd.func44, Tryd.ntmps44
  all_goals go_wp2
  all_goals go_ret
  all_goals exact ⟨rfl, rfl⟩

/-- What 'fits' answers. -/
def fitE (a : Addr) (l h : Int) : Value := match fitB l h with | true => .nilIface | false => EI.errV a
theorem fits_any (l h : Int) (a : Addr) (w : World) (hs : Sn a w) :
    Calls Tryd.prog 44 #[spV l h] w fun e w' => e = .returned (fitE a l h) ∧ w' = w.alloc (.cells #[.int .i64 l, .int .i64 h] 26) := by
  by_cases ho : -1073000000 ≤ l ∧ l ≤ 1073000000 ∧ -1073000000 ≤ h ∧ h ≤ 1073000000
  · rw [show fitE a l h = .nilIface by unfold fitE; rw [show fitB l h = true from decide_eq_true ho]]
    exact fits_in l h w ho.1 ho.2.1 ho.2.2.1 ho.2.2.2
  · rw [show fitE a l h = EI.errV a by unfold fitE; rw [show fitB l h = false from decide_eq_false ho]]
    exact fits_out l h a w hs ho
theorem isTooGreat (l h : Int) (a : Addr) (w : World) :
    Calls Tryd.prog 43 #[fitE a l h, EI.errV a] w fun e w' => e = .returned (.bool (!fitB l h)) ∧ w' = w := by
  unfold fitE
  cases fitB l h
  · exact EI.is_same a w
  · exact EI.is_nil a w
theorem okS_fit {l h : Int} (c : l ≤ h) : fitB l h = okS l h := by
  exact bool_eq (fun e => okS_mk (by have := of_decide_eq_true e; omega)) (fun e => decide_eq_true (by have := okS_of e; omega))

/-- A contract that ends in 'Below', and one that leaves the world as it was, met in a world of a drawn region's class. -/
theorem same_below {P : Program} {f : FuncId} {args : Array Value} {w : World} {v : Value} (h : Calls P f args w fun e w' => e = .returned v ∧ w' = w) : Calls P f args w fun e w' => e = .returned v ∧ Below w.heap.size w w' :=
  h.mono fun _ _ ⟨he, hw⟩ => ⟨he, hw ▸ Below.refl _ _⟩
theorem fits_below (l h : Int) (a : Addr) (w : World) (hs : Sn a w) :
    Calls Tryd.prog 44 #[spV l h] w fun e w' => e = .returned (fitE a l h) ∧ Below w.heap.size w w' :=
  (fits_any l h a w hs).mono fun _ _ ⟨he, hw⟩ => ⟨he, hw ▸ (Below.refl _ _).alloc (Nat.le_refl _) _⟩

theorem spanOk_any (l h : Int) (a : Addr) (w : World) (hs : Sn a w) :
    Calls Tryd.prog 26 #[spV l h] w fun e w' => e = .returned (.bool (okS l h)) ∧ Below w.heap.size w w' := by
  generalize hw1 : w.alloc (.cells #[.int .i64 l, .int .i64 h] 26) = w1
  have hs1 : Sn a w1 := hw1 ▸ hs.alloc _
  have B1 : Below w.heap.size w w1 := hw1 ▸ (Below.refl _ _).alloc (Nat.le_refl _) _
  have k0 := cell_regrown (show w1.cell? ⟨w.heap.size, 0, none⟩ = some (.int .i64 l) by subst hw1; simp [go_sem])
  have k1 := cell_regrown (show w1.cell? ⟨w.heap.size, 1, none⟩ = some (.int .i64 h) by subst hw1; simp [go_sem])
  have kg := cell_regrown hs1.cell
  have c1 : ∀ d os, Calls Tryd.prog 44 #[spV l h] (grow (redrawn w1 d) os) fun e w'' => e = .returned (fitE a l h) ∧ ∃ p : Regrown, w'' = grow (redrawn w1 p.d) p.os := fun d os => Calls.regrown_of (fits_below l h a _ (kg d os))
  have c2 : ∀ d os, Calls Tryd.prog 43 #[fitE a l h, EI.errV a] (grow (redrawn w1 d) os) fun e w'' => e = .returned (.bool (!fitB l h)) ∧ ∃ p : Regrown, w'' = grow (redrawn w1 p.d) p.os := fun d os => Calls.regrown_of (same_below (isTooGreat l h a _))
  by_cases c : l ≤ h
  · have H : Hid (fitB l h = okS l h) := okS_fit c
    go_enter Tryd.func26, Tryd.ntmps26
    go_wp2_with fail
    refine wp_region_quiet_below (by kernel_rfl) (by kernel_rfl) ?_
    repeat (quiet_step (first | exact c1 _ _ | exact c2 _ _))
    refine wpQuiet_nil ?_
    rintro _ ⟨⟨dq, osq⟩, rfl⟩
    go_wp2
    go_ret
    exact ⟨NW.ret_bool H.out, B1.trans ((below_regrown w1 dq osq).mono B1.size)⟩
  · have H : Hid (false = okS l h) := (okS_no (fun e => c e.2.1)).symm
    have hd : decide (l ≤ h) = false := decide_eq_false c
    go_enter Tryd.func26, Tryd.ntmps26
    go_wp2_with fail
    refine wp_region_quiet_below (by kernel_rfl) (by kernel_rfl) ?_
    repeat (quiet_step (fail))
    refine wpQuiet_nil ?_
    rintro _ ⟨⟨dq, osq⟩, rfl⟩
    go_wp2
    go_ret
    exact ⟨NW.ret_bool H.out, B1.trans ((below_regrown w1 dq osq).mono B1.size)⟩

theorem told_any (l h : Int) (a : Addr) (w : World) (hs : Sn a w) :
    Calls Tryd.prog 29 #[spV l h] w fun e w' => e = .returned (.tuple #[spV (sel (fitB l h) l) (sel (fitB l h) h), .bool (fitB l h)]) ∧ Below w.heap.size w w' := by
  generalize hw1 : (w.alloc (.cells #[.int .i64 l, .int .i64 h] 26)).alloc (.cells #[.int .i64 0, .int .i64 0] 26) = w1
  have hs1 : Sn a w1 := hw1 ▸ (hs.alloc _).alloc _
  have B1 : Below w.heap.size w w1 := hw1 ▸ ((Below.refl _ _).alloc (Nat.le_refl _) _).alloc (by simp) _
  have z1 : w1.heap.size = w.heap.size + 2 := by subst hw1; simp
  have e0 : w1.cell? ⟨w.heap.size, 0, none⟩ = some (.int .i64 l) := by subst hw1; simp [go_sem]
  have e1 : w1.cell? ⟨w.heap.size, 1, none⟩ = some (.int .i64 h) := by subst hw1; simp [go_sem]
  have f0 : w1.cell? ⟨w.heap.size + 1, 0, none⟩ = some (.int .i64 0) := by subst hw1; simp [go_sem]
  have f1 : w1.cell? ⟨w.heap.size + 1, 1, none⟩ = some (.int .i64 0) := by subst hw1; simp [go_sem]
  have g0 : w1.frozen? ⟨w.heap.size + 1, 0, none⟩ = false := by subst hw1; simp [go_sem]
  have g1 : w1.frozen? ⟨w.heap.size + 1, 1, none⟩ = false := by subst hw1; simp [go_sem]
  have k0 := cell_regrown e0
  have k1 := cell_regrown e1
  have kg := cell_regrown hs1.cell
  have c1 : ∀ d os, Calls Tryd.prog 44 #[spV l h] (grow (redrawn w1 d) os) fun e w'' => e = .returned (fitE a l h) ∧ ∃ p : Regrown, w'' = grow (redrawn w1 p.d) p.os := fun d os => Calls.regrown_of (fits_below l h a _ (kg d os))
  have c2 : ∀ d os, Calls Tryd.prog 43 #[fitE a l h, EI.errV a] (grow (redrawn w1 d) os) fun e w'' => e = .returned (.bool (!fitB l h)) ∧ ∃ p : Regrown, w'' = grow (redrawn w1 p.d) p.os := fun d os => Calls.regrown_of (same_below (isTooGreat l h a _))
  go_enter Tryd.func29, Tryd.ntmps29
  go_wp2_with fail
  refine wp_region_quiet_below (by kernel_rfl) (by kernel_rfl) ?_
  repeat (quiet_step (first | exact c1 _ _ | exact c2 _ _))
  refine wpQuiet_nil ?_
  rintro _ ⟨p, rfl⟩
  have B2 := below_regrown w1 p.d p.os
  generalize grow (redrawn w1 p.d) p.os = w2 at *
  clear c1 c2 k0 k1 kg
  replace e0 : w2.cell? ⟨w.heap.size, 0, none⟩ = some (.int .i64 l) := (B2.cell (by simp; omega)).trans e0
  replace e1 : w2.cell? ⟨w.heap.size, 1, none⟩ = some (.int .i64 h) := (B2.cell (by simp; omega)).trans e1
  replace f0 : w2.cell? ⟨w.heap.size + 1, 0, none⟩ = some (.int .i64 0) := (B2.cell (by simp; omega)).trans f0
  replace f1 : w2.cell? ⟨w.heap.size + 1, 1, none⟩ = some (.int .i64 0) := (B2.cell (by simp; omega)).trans f1
  replace g0 : w2.frozen? ⟨w.heap.size + 1, 0, none⟩ = false := (B2.frozen (by simp; omega)).trans g0
  replace g1 : w2.frozen? ⟨w.heap.size + 1, 1, none⟩ = false := (B2.frozen (by simp; omega)).trans g1
  have B3 : Below w.heap.size w w2 := B1.trans (B2.mono B1.size)
  cases hf : fitB l h
  · go_wp2
    refine bodyPost_ret (v := .tuple #[.agg #[.int .i64 0, .int .i64 0], .bool false]) (by simp [results, Tryd.results29, go_sem, *]) rfl ⟨by rw [hf]; rfl, ?_⟩
    exact (B3.setCell (Nat.le_succ _) _).setCell (Nat.le_succ _) _
  · go_wp2
    refine bodyPost_ret (v := .tuple #[.agg #[.int .i64 l, .int .i64 h], .bool true]) (by simp [results, Tryd.results29, go_sem, *]) rfl ⟨by rw [hf]; rfl, ?_⟩
    exact (B3.setCell (Nat.le_succ _) _).setCell (Nat.le_succ _) _

end SW
end Go.Proofs.YtiidbbnclhknpaaDoor
