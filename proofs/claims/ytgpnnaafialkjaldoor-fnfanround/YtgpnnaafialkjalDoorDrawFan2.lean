/-
  The draw of a fan, parts and a way of rounding.
-/
import Derived.Test.YtgpnnaafialkjalDoorDrawFan
import Derived.Test.YtgpnnaafialkjalDoorDrawNum
namespace Go.Proofs.YtgpnnaafialkjalDoor
open Go.RowKit Go.Sort
set_option linter.unusedVariables false

namespace DF
open DK DW SK

/-- The eight parts lie in block 'c', apart from the reader and the answer. -/
structure Eight (k y : Nat) (w : World) (c : Nat) : Prop where
  k : c ≠ k
  y : c ≠ y
  c0 : w.cell? ⟨c, 0, none⟩ = some (.int .i64 1)
  c1 : w.cell? ⟨c, 1, none⟩ = some (.int .i64 10)
  c2 : w.cell? ⟨c, 2, none⟩ = some (.int .i64 100)
  c3 : w.cell? ⟨c, 3, none⟩ = some (.int .i64 6000)
  c4 : w.cell? ⟨c, 4, none⟩ = some (.int .i64 360000)
  c5 : w.cell? ⟨c, 5, none⟩ = some (.int .i64 129600000)
  c6 : w.cell? ⟨c, 6, none⟩ = some (.int .i64 0)
  c7 : w.cell? ⟨c, 7, none⟩ = some (.int .i64 129600001)
theorem Eight.tch {k y c : Nat} {w w' : World} (h : Eight k y w c) (t : Tch k w.heap.size w w') : Eight k y w' c := by
  have e : ∀ o, w'.cell? ⟨c, o, none⟩ = w.cell? ⟨c, o, none⟩ := fun o => t.cell (DK.cell_lt h.c0) h.k
  exact ⟨h.k, h.y, (e 0).trans h.c0, (e 1).trans h.c1, (e 2).trans h.c2, (e 3).trans h.c3, (e 4).trans h.c4, (e 5).trans h.c5, (e 6).trans h.c6, (e 7).trans h.c7⟩
theorem Eight.set {k y c : Nat} {w : World} (h : Eight k y w c) (u v : Value) : Eight k y ((w.setCell ⟨y, 0, none⟩ u).setCell ⟨y, 1, none⟩ v) c := by
  have e : ∀ o, ((w.setCell ⟨y, 0, none⟩ u).setCell ⟨y, 1, none⟩ v).cell? ⟨c, o, none⟩ = w.cell? ⟨c, o, none⟩ := fun o => by
    rw [World.cell?_setCell_other _ _ _ _ (fun e => h.y (congrArg Addr.block e).symm), World.cell?_setCell_other _ _ _ _ (fun e => h.y (congrArg Addr.block e).symm)]
  exact ⟨h.k, h.y, (e 0).trans h.c0, (e 1).trans h.c1, (e 2).trans h.c2, (e 3).trans h.c3, (e 4).trans h.c4, (e 5).trans h.c5, (e 6).trans h.c6, (e 7).trans h.c7⟩
theorem Eight.new {k y : Nat} (w : World) (t : TypeId) (hk : k < w.heap.size) (hy : y < w.heap.size) : Eight k y (w.alloc (.cells #[.int .i64 1, .int .i64 10, .int .i64 100, .int .i64 6000, .int .i64 360000, .int .i64 129600000, .int .i64 0, .int .i64 129600001] t)) w.heap.size :=
  ⟨by omega, by omega, by simp [go_sem], by simp [go_sem], by simp [go_sem], by simp [go_sem], by simp [go_sem], by simp [go_sem], by simp [go_sem], by simp [go_sem]⟩
theorem Eight.at {z : Int} (h0 : 0 ≤ z) (h1 : z < 8) : ∃ v : Int, 0 ≤ v ∧ v ≤ 129600001 ∧ ∀ k y w c, Eight k y w c → w.cell? ⟨c, z.toNat, none⟩ = some (.int .i64 v) := by
  rcases (show z = 0 ∨ z = 1 ∨ z = 2 ∨ z = 3 ∨ z = 4 ∨ z = 5 ∨ z = 6 ∨ z = 7 by omega) with rfl | rfl | rfl | rfl | rfl | rfl | rfl | rfl
  · exact ⟨1, by omega, by omega, fun _ _ _ _ h => h.c0⟩
  · exact ⟨10, by omega, by omega, fun _ _ _ _ h => h.c1⟩
  · exact ⟨100, by omega, by omega, fun _ _ _ _ h => h.c2⟩
  · exact ⟨6000, by omega, by omega, fun _ _ _ _ h => h.c3⟩
  · exact ⟨360000, by omega, by omega, fun _ _ _ _ h => h.c4⟩
  · exact ⟨129600000, by omega, by omega, fun _ _ _ _ h => h.c5⟩
  · exact ⟨0, by omega, by omega, fun _ _ _ _ h => h.c6⟩
  · exact ⟨129600001, by omega, by omega, fun _ _ _ _ h => h.c7⟩
def isEight (k y : Nat) (u : Value) (w : World) : Prop := ∃ c, u = .slice (some ⟨c, 0, none⟩) 8 8 ∧ Eight k y w c
def isWy (u : Value) : Prop := ∃ z : Int, u = .int .i64 z ∧ -1 ≤ z ∧ z ≤ 5
def isFan (u : Value) : Prop := ∃ l h : Int, u = SK.spV l h ∧ -194400020 ≤ l ∧ l ≤ 194400020 ∧ -194400020 ≤ h ∧ h ≤ 194400020
def boxFan (y : Nat) (w : World) : Prop := ∃ l h : Int, SK.Box w y l h ∧ -194400020 ≤ l ∧ l ≤ 194400020 ∧ -194400020 ≤ h ∧ h ≤ 194400020
structure Wk (n0 : Nat) (w0 : World) (k y : Nat) (f : Nat) where
  w : World
  rd : ∃ p, Rd w k p ∧ p + 200 * f ≤ 800000000
  bw : Below n0 w0 w
  y0 : ∃ x x', SK.Box w y x x'
abbrev Ck (n0 : Nat) (w0 : World) (k y : Nat) : Nat → World → Prop := fun f w' => ∃ q : Wk n0 w0 k y f, w' = q.w
theorem Ck.mono {n0 : Nat} {w0 : World} {k y : Nat} : ∀ f w, Ck n0 w0 k y (f + 1) w → Ck n0 w0 k y f w := by
  rintro f w ⟨q, rfl⟩
  obtain ⟨p, h1, h2⟩ := q.rd
  exact ⟨⟨q.w, ⟨p, h1, by omega⟩, q.bw, q.y0⟩, rfl⟩
theorem Ck.start {n0 : Nat} {w0 w : World} {k y p : Nat} (n : Nat) (R : Rd w k p) (h : p + 200 * n ≤ 800000000) (B : Below n0 w0 w) (Y : SK.Box w y 0 0) :
    Ck n0 w0 k y n { w with drawn := w.drawn + 1 } :=
  ⟨⟨w.drew, ⟨p, R.drew, h⟩, B.drew, 0, 0, ⟨Y.c0, Y.c1, Y.f0, Y.f1⟩⟩, rfl⟩
def ndK (k y : Nat) : Nat → Option (Act → Value → World → Prop) := fun i =>
  if i = 1 then some (fun _ u _ => isFan u) else if i = 2 then some (fun _ u w => isEight k y u w) else if i = 4 then some (fun _ u _ => num8 u) else if i = 8 then some (fun _ u _ => isWy u) else if i = 9 then some (fun _ _ w => boxFan y w) else none
theorem ndK_local {ops : Array Oper} (k y : Nat) : LQ.Local ops (ndK k y) := by
  intro j Φ oj hn _ a dst v _
  unfold ndK at hn
  split at hn
  · cases hn; rfl
  · split at hn
    · cases hn; rfl
    · split at hn
      · cases hn; rfl
      · split at hn
        · cases hn; rfl
        · split at hn
          · cases hn; rfl
          · cases hn
theorem ndK_keeps {k y : Nat} {w w' : World} (h : ∀ c, Eight k y w c → Eight k y w' c) (g : boxFan y w → boxFan y w') : LQ.Keeps (ndK k y) w w' := by
  intro i Φ a u hn hu
  unfold ndK at hn
  split at hn
  · cases hn; exact hu
  · split at hn
    · cases hn
      obtain ⟨c, e, N⟩ := hu
      exact ⟨c, e, h c N⟩
    · split at hn
      · cases hn; exact hu
      · split at hn
        · cases hn; exact hu
        · split at hn
          · cases hn; exact g hu
          · cases hn
theorem boxFan.tch {k y : Nat} {w w' : World} (t : Tch k w.heap.size w w') (hy : y ≠ k) (h : boxFan y w) : boxFan y w' := by
  obtain ⟨l, h', X, b⟩ := h
  exact ⟨l, h', boxTch X t X.lt hy, b⟩
theorem alloc_k {n0 : Nat} {w0 : World} {k y f : Nat} (hn : n0 ≤ w0.heap.size) (hy : y ≠ k) (q : Wk n0 w0 k y (f + 1)) (t : TypeId) :
    Ck n0 w0 k y f (q.w.alloc (.cells #[.int .i64 1, .int .i64 10, .int .i64 100, .int .i64 6000, .int .i64 360000, .int .i64 129600000, .int .i64 0, .int .i64 129600001] t)) ∧ isEight k y (.slice (some ⟨q.w.heap.size, 0, none⟩) 8 8) (q.w.alloc (.cells #[.int .i64 1, .int .i64 10, .int .i64 100, .int .i64 6000, .int .i64 360000, .int .i64 129600000, .int .i64 0, .int .i64 129600001] t)) ∧ LQ.Keeps (ndK k y) q.w (q.w.alloc (.cells #[.int .i64 1, .int .i64 10, .int .i64 100, .int .i64 6000, .int .i64 360000, .int .i64 129600000, .int .i64 0, .int .i64 129600001] t)) := by
  obtain ⟨p, R, hp⟩ := q.rd
  obtain ⟨x, x', Y⟩ := q.y0
  have hb : Below q.w.heap.size q.w (q.w.alloc (.cells #[.int .i64 1, .int .i64 10, .int .i64 100, .int .i64 6000, .int .i64 360000, .int .i64 129600000, .int .i64 0, .int .i64 129600001] t)) := SK.below_new _ _
  exact ⟨⟨⟨_, ⟨p, R.alloc _, by omega⟩, q.bw.trans (hb.mono (Nat.le_trans hn q.bw.size)), x, x', Y.alloc _⟩, rfl⟩, ⟨_, rfl, Eight.new _ _ R.lt Y.lt⟩, ndK_keeps (fun c N => N.tch (Tch.ofBelow hb)) fun X => X.tch (Tch.ofBelow (k := k) hb) hy⟩
theorem fan_k {n0 : Nat} {w0 : World} {k y f : Nat} (hy : y ≠ k) (hn : n0 ≤ k) (h0 : n0 ≤ w0.heap.size) (q : Wk n0 w0 k y (f + 1)) :
    Calls Tryd.prog 9 #[.pointer (some ⟨k, 0, none⟩)] q.w fun e w'' => ∃ u, e = .returned u ∧ Ck n0 w0 k y f w'' ∧ isFan u ∧ LQ.Keeps (ndK k y) q.w w'' := by
  obtain ⟨p, R, hp⟩ := q.rd
  refine (l71Fan_any q.w k p (by omega) R).mono ?_
  rintro e w1 ⟨l, h, p', rfl, l0, l1, h0', h1, hp', R1, T1⟩
  obtain ⟨x, x', Y⟩ := q.y0
  exact ⟨_, rfl, ⟨⟨w1, ⟨_, R1, by omega⟩, q.bw.trans (T1.toBelow (Nat.le_trans h0 q.bw.size) hn), x, x', boxTch Y T1 Y.lt hy⟩, rfl⟩, ⟨l, h, rfl, l0, l1, h0', h1⟩, ndK_keeps (fun c N => N.tch T1) fun X => X.tch T1 hy⟩
theorem pick_k {n0 : Nat} {w0 : World} {k y f : Nat} (hy : y ≠ k) (hn : n0 ≤ k) (h0 : n0 ≤ w0.heap.size) (q : Wk n0 w0 k y (f + 1)) :
    Calls Tryd.prog 10 #[.pointer (some ⟨k, 0, none⟩), .int .i64 8] q.w fun e w'' => ∃ u, e = .returned u ∧ Ck n0 w0 k y f w'' ∧ num8 u ∧ LQ.Keeps (ndK k y) q.w w'' := by
  obtain ⟨p, R, hp⟩ := q.rd
  refine (pick_any q.w k p 8 (by omega) R).mono ?_
  rintro e w1 ⟨v, rfl, v0, v1, R1, T1⟩
  obtain ⟨x, x', Y⟩ := q.y0
  exact ⟨_, rfl, ⟨⟨w1, ⟨_, R1, by omega⟩, q.bw.trans (T1.toBelow (Nat.le_trans h0 q.bw.size) hn), x, x', boxTch Y T1 Y.lt hy⟩, rfl⟩, ⟨v, rfl, v0, v1 (by omega)⟩, ndK_keeps (fun c N => N.tch T1) fun X => X.tch T1 hy⟩
theorem way_k {n0 : Nat} {w0 : World} {k y f : Nat} (hy : y ≠ k) (hn : n0 ≤ k) (h0 : n0 ≤ w0.heap.size) (q : Wk n0 w0 k y (f + 1)) :
    Calls Tryd.prog 11 #[.pointer (some ⟨k, 0, none⟩)] q.w fun e w'' => ∃ u, e = .returned u ∧ Ck n0 w0 k y f w'' ∧ isWy u ∧ LQ.Keeps (ndK k y) q.w w'' := by
  obtain ⟨p, R, hp⟩ := q.rd
  refine (l71Way_any q.w k p (by omega) R).mono ?_
  rintro e w1 ⟨v, p', rfl, v0, v1, hp', R1, T1⟩
  obtain ⟨x, x', Y⟩ := q.y0
  exact ⟨_, rfl, ⟨⟨w1, ⟨_, R1, by omega⟩, q.bw.trans (T1.toBelow (Nat.le_trans h0 q.bw.size) hn), x, x', boxTch Y T1 Y.lt hy⟩, rfl⟩, ⟨v, rfl, v0, v1⟩, ndK_keeps (fun c N => N.tch T1) fun X => X.tch T1 hy⟩
theorem store_k {n0 : Nat} {w0 : World} {k y f : Nat} {l h x x' : Int} (hy : y ≠ k) (hn : n0 ≤ y) (l0 : -194400020 ≤ l) (l1 : l ≤ 194400020) (h0 : -194400020 ≤ h) (h1 : h ≤ 194400020) (q : Wk n0 w0 k y (f + 1)) (Y : SK.Box q.w y x x') :
    Ck n0 w0 k y f ((q.w.setCell ⟨y, 0, none⟩ (.int .i64 l)).setCell ⟨y, 1, none⟩ (.int .i64 h)) ∧ boxFan y ((q.w.setCell ⟨y, 0, none⟩ (.int .i64 l)).setCell ⟨y, 1, none⟩ (.int .i64 h)) ∧
    LQ.Keeps (ndK k y) q.w ((q.w.setCell ⟨y, 0, none⟩ (.int .i64 l)).setCell ⟨y, 1, none⟩ (.int .i64 h)) := by
  obtain ⟨p, R, hp⟩ := q.rd
  have X := Y.set l h
  exact ⟨⟨⟨_, ⟨p, rdBox R Y hy l h, by omega⟩, (q.bw.setCell (by simpa using hn) _).setCell (by simpa using hn) _, l, h, X⟩, rfl⟩, ⟨l, h, X, l0, l1, h0, h1⟩, ndK_keeps (fun c N => N.set _ _) fun _ => ⟨l, h, X, l0, l1, h0, h1⟩⟩
set_option maxHeartbeats 4000000 in
theorem drawFanRound_any (w : World) (a : Option Addr) (len cap : Nat) (h : Src w a len cap) :
    Calls Tryd.prog 4 #[.slice a len cap] w fun e w' => ∃ sl sh pp yy : Int, e = .returned (.tuple #[SK.spV sl sh, .int .i64 pp, .int .i64 yy]) ∧ -194400020 ≤ sl ∧ sl ≤ 194400020 ∧ -194400020 ≤ sh ∧ sh ≤ 194400020 ∧ 0 ≤ pp ∧ pp ≤ 129600001 ∧ -1 ≤ yy ∧ yy ≤ 5 ∧ Below w.heap.size w w' := by
  go_enter Tryd.func4, Tryd.ntmps4
  go_wp2_with fail
  refine (l6Open_any _ _ _ _ (h.kept (SK.below_new w _))).mono ?_
  rintro e w1 ⟨rfl, R1, B1⟩
  have Y := (SK.Box.new w 0 0 24).kept B1
  have B := SK.below1 (SK.below_new w _) B1
  have hk : w.heap.size + 1 ≤ (w.alloc (.cells #[.int .i64 0, .int .i64 0] 24)).heap.size := by simp
  generalize hkk : (w.alloc (.cells #[.int .i64 0, .int .i64 0] 24)).heap.size = k at *
  clear B1 h hkk
  go_wp2_with fail
  refine LQ.regionT (Ck w.heap.size w k w.heap.size) (ndK k w.heap.size) 10 (.det 0 (.det 3 (.det 7 (.two 1 (.two 2 (.one 4 (.det 5 (.det 6 (.one 8 (.one 9 .nil))))) 4 (.two 2 (.det 5 (.det 6 (.one 8 (.one 9 .nil)))) 8 (.two 2 (.det 5 (.det 6 (.one 9 .nil))) 9 (.one 2 (.det 5 (.det 6 .nil)))))) 2 (.one 1 (.one 4 (.det 5 (.det 6 (.one 8 (.one 9 .nil)))))))))) (ndK_local _ _) (by kernel_rfl) (by kernel_rfl) Ck.mono (Ck.start 10 R1 (by omega) B Y) ?_
  iterate 3 (refine LQ.stepDT rfl rfl (fun N hN => ?_); go_simp; apply Exists.intro; refine ⟨fun _ _ _ => ?_, hN _ _ ?_⟩; exact And.intro rfl rfl; clear hN N)
  refine LQ.stepTwo ?_ ?_
  · refine LQ.opN rfl rfl (fun N hN => ?_)
    go_simp
    refine ⟨fun f q _ => And.intro rfl (fan_k (by omega) (by omega) (Nat.le_refl _) q), ?_⟩
    rintro u ⟨sl, sh, rfl, l0, l1, h0, h1⟩
    refine hN _ _ ?_
    clear hN N
    refine LQ.stepTwo ?_ ?_
    · refine LQ.opN rfl rfl (fun N hN => ?_)
      go_simp
      refine ⟨fun f q _ => alloc_k (Nat.le_refl _) (by omega) q _, ?_⟩
      rintro u wn ⟨cn, rfl, Nn⟩
      refine hN _ _ ?_
      clear hN N Nn wn
      refine LQ.stepOne ?_
      refine LQ.opN rfl rfl (fun N hN => ?_)
      go_simp
      refine ⟨fun f q _ => And.intro rfl (pick_k (by omega) (by omega) (Nat.le_refl _) q), ?_⟩
      rintro u ⟨z, rfl, z0, z1⟩
      refine hN _ _ ?_
      clear hN N
      obtain ⟨pv, pv0, pv1, hpv⟩ := Eight.at z0 z1
      iterate 1 (refine LQ.stepDT rfl rfl (fun N hN => ?_); go_simp; apply Exists.intro; refine ⟨fun _ _ _ => ?_, hN _ _ ?_⟩; exact And.intro rfl rfl; clear hN N)
      refine LQ.stepDT rfl rfl (fun N hN => ?_)
      go_simp
      refine ⟨.int .i64 pv, fun f q hk => ?_, hN _ _ ?_⟩
      · obtain ⟨cx, ex, Nx⟩ := (hk _ (List.mem_cons_of_mem _ (List.mem_cons_self ..))).2
        cases ex
        have hc := hpv _ _ _ _ Nx
        clear hk Nx
        go_simp
        exact ⟨rfl, rfl⟩
      clear hN N
      refine LQ.stepOne ?_
      refine LQ.opN rfl rfl (fun N hN => ?_)
      go_simp
      refine ⟨fun f q _ => And.intro rfl (way_k (by omega) (by omega) (Nat.le_refl _) q), ?_⟩
      rintro u ⟨yw, rfl, yw0, yw1⟩
      refine hN _ _ ?_
      clear hN N
      refine LQ.stepOne ?_
      refine LQ.opN rfl rfl (fun N hN => ?_)
      go_simp
      refine ⟨fun f q _ => ?_, fun _ _ => hN _ _ ?_⟩
      · obtain ⟨x, x', X⟩ := q.y0
        have X' := X
        obtain ⟨g0, g1, g2, g3⟩ := X'
        go_simp
        exact store_k (by omega) (Nat.le_refl _) l0 l1 h0 h1 q X
      clear hN N
      refine LQ.lexEndT ?_
      rintro w7 ⟨q, rfl⟩ kn
      obtain ⟨tl, th, X, t0, t1, t2, t3⟩ : boxFan w.heap.size q.w := (kn _ (List.mem_cons_self ..)).2
      clear kn hpv
      have B7 := q.bw
      generalize q.w = w7 at *
      obtain ⟨c0, c1, c2, c3⟩ := X
      simp only [List.drop]
      go_wp2
      refine bodyPost_ret (v := .tuple #[.agg #[.int .i64 tl, .int .i64 th], .int .i64 pv, .int .i64 yw]) (by simp [results, Tryd.results4, go_sem, *]) rfl ⟨_, _, _, _, rfl, t0, t1, t2, t3, by omega, by omega, by omega, by omega, ?_⟩
      exact B7
    · refine LQ.opN rfl rfl (fun N hN => ?_)
      go_simp
      refine ⟨fun f q _ => And.intro rfl (pick_k (by omega) (by omega) (Nat.le_refl _) q), ?_⟩
      rintro u ⟨z, rfl, z0, z1⟩
      refine hN _ _ ?_
      clear hN N
      obtain ⟨pv, pv0, pv1, hpv⟩ := Eight.at z0 z1
      refine LQ.stepTwo ?_ ?_
      · refine LQ.opN rfl rfl (fun N hN => ?_)
        go_simp
        refine ⟨fun f q _ => alloc_k (Nat.le_refl _) (by omega) q _, ?_⟩
        rintro u wn ⟨cn, rfl, Nn⟩
        refine hN _ _ ?_
        clear hN N Nn wn
        iterate 1 (refine LQ.stepDT rfl rfl (fun N hN => ?_); go_simp; apply Exists.intro; refine ⟨fun _ _ _ => ?_, hN _ _ ?_⟩; exact And.intro rfl rfl; clear hN N)
        refine LQ.stepDT rfl rfl (fun N hN => ?_)
        go_simp
        refine ⟨.int .i64 pv, fun f q hk => ?_, hN _ _ ?_⟩
        · obtain ⟨cx, ex, Nx⟩ := (hk _ (List.mem_cons_self ..)).2
          cases ex
          have hc := hpv _ _ _ _ Nx
          clear hk Nx
          go_simp
          exact ⟨rfl, rfl⟩
        clear hN N
        refine LQ.stepOne ?_
        refine LQ.opN rfl rfl (fun N hN => ?_)
        go_simp
        refine ⟨fun f q _ => And.intro rfl (way_k (by omega) (by omega) (Nat.le_refl _) q), ?_⟩
        rintro u ⟨yw, rfl, yw0, yw1⟩
        refine hN _ _ ?_
        clear hN N
        refine LQ.stepOne ?_
        refine LQ.opN rfl rfl (fun N hN => ?_)
        go_simp
        refine ⟨fun f q _ => ?_, fun _ _ => hN _ _ ?_⟩
        · obtain ⟨x, x', X⟩ := q.y0
          have X' := X
          obtain ⟨g0, g1, g2, g3⟩ := X'
          go_simp
          exact store_k (by omega) (Nat.le_refl _) l0 l1 h0 h1 q X
        clear hN N
        refine LQ.lexEndT ?_
        rintro w7 ⟨q, rfl⟩ kn
        obtain ⟨tl, th, X, t0, t1, t2, t3⟩ : boxFan w.heap.size q.w := (kn _ (List.mem_cons_self ..)).2
        clear kn hpv
        have B7 := q.bw
        generalize q.w = w7 at *
        obtain ⟨c0, c1, c2, c3⟩ := X
        simp only [List.drop]
        go_wp2
        refine bodyPost_ret (v := .tuple #[.agg #[.int .i64 tl, .int .i64 th], .int .i64 pv, .int .i64 yw]) (by simp [results, Tryd.results4, go_sem, *]) rfl ⟨_, _, _, _, rfl, t0, t1, t2, t3, by omega, by omega, by omega, by omega, ?_⟩
        exact B7
      · refine LQ.opN rfl rfl (fun N hN => ?_)
        go_simp
        refine ⟨fun f q _ => And.intro rfl (way_k (by omega) (by omega) (Nat.le_refl _) q), ?_⟩
        rintro u ⟨yw, rfl, yw0, yw1⟩
        refine hN _ _ ?_
        clear hN N
        refine LQ.stepTwo ?_ ?_
        · refine LQ.opN rfl rfl (fun N hN => ?_)
          go_simp
          refine ⟨fun f q _ => alloc_k (Nat.le_refl _) (by omega) q _, ?_⟩
          rintro u wn ⟨cn, rfl, Nn⟩
          refine hN _ _ ?_
          clear hN N Nn wn
          iterate 1 (refine LQ.stepDT rfl rfl (fun N hN => ?_); go_simp; apply Exists.intro; refine ⟨fun _ _ _ => ?_, hN _ _ ?_⟩; exact And.intro rfl rfl; clear hN N)
          refine LQ.stepDT rfl rfl (fun N hN => ?_)
          go_simp
          refine ⟨.int .i64 pv, fun f q hk => ?_, hN _ _ ?_⟩
          · obtain ⟨cx, ex, Nx⟩ := (hk _ (List.mem_cons_self ..)).2
            cases ex
            have hc := hpv _ _ _ _ Nx
            clear hk Nx
            go_simp
            exact ⟨rfl, rfl⟩
          clear hN N
          refine LQ.stepOne ?_
          refine LQ.opN rfl rfl (fun N hN => ?_)
          go_simp
          refine ⟨fun f q _ => ?_, fun _ _ => hN _ _ ?_⟩
          · obtain ⟨x, x', X⟩ := q.y0
            have X' := X
            obtain ⟨g0, g1, g2, g3⟩ := X'
            go_simp
            exact store_k (by omega) (Nat.le_refl _) l0 l1 h0 h1 q X
          clear hN N
          refine LQ.lexEndT ?_
          rintro w7 ⟨q, rfl⟩ kn
          obtain ⟨tl, th, X, t0, t1, t2, t3⟩ : boxFan w.heap.size q.w := (kn _ (List.mem_cons_self ..)).2
          clear kn hpv
          have B7 := q.bw
          generalize q.w = w7 at *
          obtain ⟨c0, c1, c2, c3⟩ := X
          simp only [List.drop]
          go_wp2
          refine bodyPost_ret (v := .tuple #[.agg #[.int .i64 tl, .int .i64 th], .int .i64 pv, .int .i64 yw]) (by simp [results, Tryd.results4, go_sem, *]) rfl ⟨_, _, _, _, rfl, t0, t1, t2, t3, by omega, by omega, by omega, by omega, ?_⟩
          exact B7
        · refine LQ.opN rfl rfl (fun N hN => ?_)
          go_simp
          refine ⟨fun f q _ => ?_, fun _ _ => hN _ _ ?_⟩
          · obtain ⟨x, x', X⟩ := q.y0
            have X' := X
            obtain ⟨g0, g1, g2, g3⟩ := X'
            go_simp
            exact store_k (by omega) (Nat.le_refl _) l0 l1 h0 h1 q X
          clear hN N
          refine LQ.stepOne ?_
          refine LQ.opN rfl rfl (fun N hN => ?_)
          go_simp
          refine ⟨fun f q _ => alloc_k (Nat.le_refl _) (by omega) q _, ?_⟩
          rintro u wn ⟨cn, rfl, Nn⟩
          refine hN _ _ ?_
          clear hN N Nn wn
          iterate 1 (refine LQ.stepDT rfl rfl (fun N hN => ?_); go_simp; apply Exists.intro; refine ⟨fun _ _ _ => ?_, hN _ _ ?_⟩; exact And.intro rfl rfl; clear hN N)
          refine LQ.stepDT rfl rfl (fun N hN => ?_)
          go_simp
          refine ⟨.int .i64 pv, fun f q hk => ?_, hN _ _ ?_⟩
          · obtain ⟨cx, ex, Nx⟩ := (hk _ (List.mem_cons_self ..)).2
            cases ex
            have hc := hpv _ _ _ _ Nx
            clear hk Nx
            go_simp
            exact ⟨rfl, rfl⟩
          clear hN N
          refine LQ.lexEndT ?_
          rintro w7 ⟨q, rfl⟩ kn
          obtain ⟨tl, th, X, t0, t1, t2, t3⟩ : boxFan w.heap.size q.w := (kn _ (List.mem_cons_of_mem _ (List.mem_cons_self ..))).2
          clear kn hpv
          have B7 := q.bw
          generalize q.w = w7 at *
          obtain ⟨c0, c1, c2, c3⟩ := X
          simp only [List.drop]
          go_wp2
          refine bodyPost_ret (v := .tuple #[.agg #[.int .i64 tl, .int .i64 th], .int .i64 pv, .int .i64 yw]) (by simp [results, Tryd.results4, go_sem, *]) rfl ⟨_, _, _, _, rfl, t0, t1, t2, t3, by omega, by omega, by omega, by omega, ?_⟩
          exact B7
  · refine LQ.opN rfl rfl (fun N hN => ?_)
    go_simp
    refine ⟨fun f q _ => alloc_k (Nat.le_refl _) (by omega) q _, ?_⟩
    rintro u wn ⟨cn, rfl, Nn⟩
    refine hN _ _ ?_
    clear hN N Nn wn
    refine LQ.stepOne ?_
    refine LQ.opN rfl rfl (fun N hN => ?_)
    go_simp
    refine ⟨fun f q _ => And.intro rfl (fan_k (by omega) (by omega) (Nat.le_refl _) q), ?_⟩
    rintro u ⟨sl, sh, rfl, l0, l1, h0, h1⟩
    refine hN _ _ ?_
    clear hN N
    refine LQ.stepOne ?_
    refine LQ.opN rfl rfl (fun N hN => ?_)
    go_simp
    refine ⟨fun f q _ => And.intro rfl (pick_k (by omega) (by omega) (Nat.le_refl _) q), ?_⟩
    rintro u ⟨z, rfl, z0, z1⟩
    refine hN _ _ ?_
    clear hN N
    obtain ⟨pv, pv0, pv1, hpv⟩ := Eight.at z0 z1
    iterate 1 (refine LQ.stepDT rfl rfl (fun N hN => ?_); go_simp; apply Exists.intro; refine ⟨fun _ _ _ => ?_, hN _ _ ?_⟩; exact And.intro rfl rfl; clear hN N)
    refine LQ.stepDT rfl rfl (fun N hN => ?_)
    go_simp
    refine ⟨.int .i64 pv, fun f q hk => ?_, hN _ _ ?_⟩
    · obtain ⟨cx, ex, Nx⟩ := (hk _ (List.mem_cons_of_mem _ (List.mem_cons_of_mem _ (List.mem_cons_self ..)))).2
      cases ex
      have hc := hpv _ _ _ _ Nx
      clear hk Nx
      go_simp
      exact ⟨rfl, rfl⟩
    clear hN N
    refine LQ.stepOne ?_
    refine LQ.opN rfl rfl (fun N hN => ?_)
    go_simp
    refine ⟨fun f q _ => And.intro rfl (way_k (by omega) (by omega) (Nat.le_refl _) q), ?_⟩
    rintro u ⟨yw, rfl, yw0, yw1⟩
    refine hN _ _ ?_
    clear hN N
    refine LQ.stepOne ?_
    refine LQ.opN rfl rfl (fun N hN => ?_)
    go_simp
    refine ⟨fun f q _ => ?_, fun _ _ => hN _ _ ?_⟩
    · obtain ⟨x, x', X⟩ := q.y0
      have X' := X
      obtain ⟨g0, g1, g2, g3⟩ := X'
      go_simp
      exact store_k (by omega) (Nat.le_refl _) l0 l1 h0 h1 q X
    clear hN N
    refine LQ.lexEndT ?_
    rintro w7 ⟨q, rfl⟩ kn
    obtain ⟨tl, th, X, t0, t1, t2, t3⟩ : boxFan w.heap.size q.w := (kn _ (List.mem_cons_self ..)).2
    clear kn hpv
    have B7 := q.bw
    generalize q.w = w7 at *
    obtain ⟨c0, c1, c2, c3⟩ := X
    simp only [List.drop]
    go_wp2
    refine bodyPost_ret (v := .tuple #[.agg #[.int .i64 tl, .int .i64 th], .int .i64 pv, .int .i64 yw]) (by simp [results, Tryd.results4, go_sem, *]) rfl ⟨_, _, _, _, rfl, t0, t1, t2, t3, by omega, by omega, by omega, by omega, ?_⟩
    exact B7
end DF
end Go.Proofs.YtgpnnaafialkjalDoor
