/-
  A range over a function that keeps state of its own in cells: the function's blocks lie behind those that were there when the loop began; the loop's body writes only ahead of them. Rounds are counted.
-/
import Derived.Test.YtiidbbnclhknpaaDoorSineKit
import Derived.RangeFuncNested
import Derived.RangeFuncBound
import Derived.RangeFuncCalls
import Derived.RangeFuncLeaves
import Derived.Shelf.Abstract
import Derived.Shelf.RegionOpen
import Derived.OwnWalkIn
import Derived.TacticsInMore
import Derived.LoopNIn
import Derived.LoopIn
namespace Go.Proofs.YtiidbbnclhknpaaDoor
open Go.RowKit Go.Sort Go.Shelf
set_option linter.unusedVariables false
namespace RG
variable {F : Fence} {n : Nat} {P : Program}
/-- Whatever lies from 'B' on lies as it lay. -/
structure Above (B : Nat) (W W' : World) : Prop where
  size : W.heap.size ≤ W'.heap.size
  same : ∀ k, B ≤ k → k < W.heap.size → W'.heap[k]? = W.heap[k]?
theorem Above.refl (B : Nat) (W : World) : Above B W W := ⟨Nat.le_refl _, fun _ _ _ => rfl⟩
theorem Above.trans {B : Nat} {X Y Z : World} (h : Above B X Y) (k : Above B Y Z) : Above B X Z :=
  ⟨Nat.le_trans h.size k.size, fun i hi hl => (k.same i hi (Nat.lt_of_lt_of_le hl h.size)).trans (h.same i hi hl)⟩
theorem Above.mono {B C : Nat} {X Y : World} (h : Above B X Y) (k : B ≤ C) : Above C X Y := ⟨h.size, fun i hi hl => h.same i (by omega) hl⟩
theorem Above.alloc {B : Nat} {X Y : World} (h : Above B X Y) (o : Obj) : Above B X (Y.alloc o) :=
  h.trans ⟨by simp, fun i _ hl => Below.heap_alloc Y o i hl⟩
theorem Above.setCell {B : Nat} {X Y : World} (h : Above B X Y) {p : Addr} (hp : p.block < B) (v : Value) : Above B X (Y.setCell p v) :=
  h.trans ⟨by simp [World.setCell], fun i hi _ => Below.heap_setCell Y p v i (by omega)⟩
theorem Above.putObj {B : Nat} {X Y : World} (h : Above B X Y) {l : Nat} (hl : l < B) (o : Obj) : Above B X (Y.putObj l o) :=
  h.trans ⟨by simp, fun i hi _ => World.putObj_heap_other (by omega)⟩
theorem Above.below {B C : Nat} {X Y Z : World} (h : Above B X Y) (k : Below C Y Z) (hc : Y.heap.size ≤ C) : Above B X Z :=
  h.trans ⟨k.size, fun i _ hl => k.block i (by omega)⟩
theorem below_put {B : Nat} {X : World} {l : Nat} (o : Obj) (hl : B ≤ l) : Below B X (X.putObj l o) :=
  ⟨rfl, rfl, rfl, by simp, fun k hk => World.putObj_heap_other (by omega)⟩
/-- What the function that is ranged over does: 'enc k' is handed to round k, as long as 'go k'. -/
def Gives (F : Fence) (n : Nat) (P : Program) (g : Nat) (lb : Array Value) (enc : Nat → Value) (go : Nat → Prop) (w : World) : Prop :=
  ∀ (l : Nat) (J : Nat → World → Prop) (Jx : World → Prop) (W : World), Below w.heap.size w W → (∀ k X Y, J k X → Below W.heap.size X Y → J k Y) → (∀ X Y, Jx X → Below W.heap.size X Y → Jx Y) →
    (∀ k X, J k X → W.heap.size ≤ X.heap.size → go k → YieldAt F (n - 1) P l #[enc k] X fun e Y => (e = .returned (.bool true) ∧ J (k + 1) Y ∧ Above W.heap.size X Y) ∨ (e = .returned (.bool false) ∧ Jx Y)) →
    J 0 W → CallsIn F n P g (#[.func (.yield l) #[] #[]] ++ lb) W fun e Y => (∃ v, e = .returned v) ∧ ((∃ k, ¬ go k ∧ J k Y) ∨ Jx Y)
/-- How a round may be left. -/
def post (B : Nat) (I : Nat → World → Prop) (Ix : Code → World → Prop) (k : Nat) (X : World) : Exit → Act → World → Prop
  | .normal, _, Y => Above B X Y ∧ I (k + 1) Y
  | .ret, _, Y => Above B X Y ∧ Ix .ret Y
  | .exit i, _, Y => Above B X Y ∧ Ix (.exit i) Y
  | .goto t, _, Y => Above B X Y ∧ Ix (.goto t) Y
  | .panic _, _, _ => False
  | .outgrown, _, _ => False
theorem law {g : Operand} {ps : Array Tmp} {assign body : Code} {Q : Exit → Act → World → Prop} {a : Act} {w : World}
    (hro : F.round = none) (h1 : 1 ≤ n) {gf : Nat} {lb : Array Value} (hg : a.eval g = .func (.func gf) #[] lb) (hFg : F.fn gf) (eg : ∀ args w, (callFunc gf args).run P w = .ok (.enter gf args) w)
    {enc : Nat → Value} {go : Nat → Prop} (hseq : Gives F (n - 1) P gf lb enc go w) (hps : ps.size = 1)
    (I : Nat → World → Prop) (Ix : Code → World → Prop) (hI : ∀ k X Y, I k X → Below w.heap.size X Y → I k Y) (hIx : ∀ c X Y, Ix c X → Below w.heap.size X Y → Ix c Y) (h0 : I 0 w)
    (hround : ∀ (l k : Nat) (X : World), w.heap.size ≤ l → l < X.heap.size → I k X → go k → assign.wpIn (F.inRound l) (n - 1 - 1) P
      (Exit.then (fun a₁ Y => Above w.heap.size X Y ∧ ∀ o, body.wpIn (F.inRound l) (n - 1 - 1) P (post w.heap.size I Ix k (Y.putObj l o)) a₁ (Y.putObj l o)) (fun _ _ _ => False))
      { tmps := (ps.zip #[enc k]).foldl (fun t (p, v) => t.setIfInBounds p v) a.tmps, defers := [] } X)
    (hdone : ∀ (D k : Nat) (X : World), w.heap.size ≤ D → ¬ go k → I k X → X.heap[D]? = some (.deferred (some [])) → Q .normal { a with defers := { target := .collected D, args := #[] } :: a.defers } X)
    (hstop : ∀ (D : Nat) (c : Code) (X : World), w.heap.size ≤ D → Ix c X → X.heap[D]? = some (.deferred (some [])) → c.wpIn F n P Q { a with defers := { target := .collected D, args := #[] } :: a.defers } X) :
    (Code.rangeFunc g ps assign body).wpIn F n P Q a w := by
  refine wpIn_rangeFunc fun fn hfn => ?_
  rw [hro]
  -- the loop's record, by its state
  obtain ⟨rc, hrc⟩ : ∃ rc : LoopState → Option Code → Loop, rc = fun st pe => { state := st, pending := pe, fn, tmps := a.tmps, params := ps, assign, body, defers := w.heap.size } := ⟨_, rfl⟩
  have hent := run_enterLoop_outer (P := P) (w := w) fn a.tmps ps assign body
  have hrdy : ({ state := .ready, pending := none, fn, tmps := a.tmps, params := ps, assign, body, defers := w.heap.size } : Loop) = rc .ready none := by rw [hrc]
  rw [hrdy] at hent
  have bl : Below w.heap.size w ((w.alloc (.deferred (some []))).alloc (.loop (rc .ready none))) := SK.below_new2 w _ _
  have d1 : ((w.alloc (.deferred (some []))).alloc (.loop (rc .ready none))).heap[w.heap.size]? = some (.deferred (some [])) := (Below.heap_alloc _ _ _ (by simp)).trans (World.alloc_heap_new w _)
  have r1 : ((w.alloc (.deferred (some []))).alloc (.loop (rc .ready none))).heap[w.heap.size + 1]? = some (.loop (rc .ready none)) := by
    have := World.alloc_heap_new (w.alloc (.deferred (some []))) (.loop (rc .ready none))
    rwa [World.size_alloc] at this
  have sz : ((w.alloc (.deferred (some []))).alloc (.loop (rc .ready none))).heap.size = w.heap.size + 2 := by simp
  generalize (w.alloc (.deferred (some []))).alloc (.loop (rc .ready none)) = W1 at *
  refine ⟨w.heap.size + 1, _, W1, { target := .fn (.func gf) lb, args := #[.func (.yield (w.heap.size + 1)) #[] #[]] }, W1, gf, #[.func (.yield (w.heap.size + 1)) #[] #[]] ++ lb, W1, hent, by simp only [resolve, hg]; simp [go_sem],
    fun f' hf' => by simp [Target.leads] at hf'; subst hf'; exact hFg, by simp [invoke, go_sem, eg], fun _ => h1, ?_⟩
  refine (hseq (w.heap.size + 1) (fun k X => I k X ∧ X.heap[w.heap.size + 1]? = some (.loop (rc .ready none)) ∧ X.heap[w.heap.size]? = some (.deferred (some [])))
    (fun X => ∃ c, Ix c X ∧ X.heap[w.heap.size + 1]? = some (.loop (rc .done (some c))) ∧ X.heap[w.heap.size]? = some (.deferred (some []))) W1 bl
    (fun k X Y h b => ⟨hI k X Y h.1 (b.mono (by omega)), (b.block _ (by omega)).trans h.2.1, (b.block _ (by omega)).trans h.2.2⟩)
    (fun X Y h b => by
      obtain ⟨c, h1, h2, h3⟩ := h
      exact ⟨c, hIx c X Y h1 (b.mono (by omega)), (b.block _ (by omega)).trans h2, (b.block _ (by omega)).trans h3⟩) ?_ ⟨hI 0 _ _ h0 bl, r1, d1⟩).mono ?_
  · rintro k X ⟨hi, hr, hd⟩ hX hgo
    have hy := run_yield (P := P) (args := #[enc k]) hr (by rw [hrc]; simp [hps])
    rw [hrc] at hy
    refine ⟨fn, _, assign, body, hy, roundIn_of_wpIn hfn ?_⟩
    refine wpIn_mono (hround (w.heap.size + 1) k X (by omega) (by omega) hi hgo) ?_
    rintro e a₁ Y hp
    cases e with
    | normal =>
      obtain ⟨hab, hb⟩ := hp
      have hr2 := (hab.same (w.heap.size + 1) (by omega) (by omega)).trans hr
      have hd2 := (hab.same w.heap.size (by omega) (by omega)).trans hd
      have sY := hab.size
      refine ⟨_, run_beginRound hr2 (by rw [hrc]), ?_⟩
      have hr3 : (Y.putObj (w.heap.size + 1) (.loop { rc .ready none with state := .busy })).heap[w.heap.size + 1]? = some (.loop { rc .ready none with state := .busy }) := World.putObj_heap_same (by omega)
      have hd3 : (Y.putObj (w.heap.size + 1) (.loop { rc .ready none with state := .busy })).heap[w.heap.size]? = some (.deferred (some [])) := (World.putObj_heap_other (by omega)).trans hd2
      have hab3 : Above (w.heap.size + 2) X (Y.putObj (w.heap.size + 1) (.loop { rc .ready none with state := .busy })) := (hab.mono (by omega)).putObj (by omega) _
      refine wpIn_mono (hb (.loop { rc .ready none with state := .busy })) ?_
      have hs3 : (Y.putObj (w.heap.size + 1) (.loop { rc .ready none with state := .busy })).heap.size = Y.heap.size := by simp
      generalize Y.putObj (w.heap.size + 1) (.loop { rc .ready none with state := .busy }) = Z at *
      have fin : ∀ (j : Option Code) (V : World), Above w.heap.size Z V → (Instr.endRound (w.heap.size + 1) j).run P V = .ok (.bool j.isNone) (V.putObj (w.heap.size + 1) (.loop (rc (if j.isNone then .ready else .done) j))) ∧
          (V.putObj (w.heap.size + 1) (.loop (rc (if j.isNone then .ready else .done) j))).heap[w.heap.size + 1]? = some (.loop (rc (if j.isNone then .ready else .done) j)) ∧
          (V.putObj (w.heap.size + 1) (.loop (rc (if j.isNone then .ready else .done) j))).heap[w.heap.size]? = some (.deferred (some [])) := fun j V hV => by
        have q1 := (hV.same (w.heap.size + 1) (by omega) (by omega)).trans hr3
        have q2 := (hV.same w.heap.size (by omega) (by omega)).trans hd3
        have q3 := hV.size
        have q4 := run_endRound (P := P) j q1
        rw [hrc] at q4 ⊢
        exact ⟨q4, World.putObj_heap_same (by omega), (World.putObj_heap_other (by omega)).trans q2⟩
      rintro e a₂ V hq
      cases e with
      | normal =>
        obtain ⟨hV, hi2⟩ := hq
        obtain ⟨q1, q2, q3⟩ := fin none V hV
        refine ⟨_, _, q1, .inl ⟨rfl, ⟨hI _ _ _ hi2 (below_put _ (by omega)), q2, q3⟩, ?_⟩⟩
        rw [sz]
        exact (hab3.trans (hV.mono (by omega))).putObj (by omega) _
      | ret =>
        obtain ⟨hV, hi2⟩ := hq
        obtain ⟨q1, q2, q3⟩ := fin (some .ret) V hV
        exact ⟨_, _, q1, .inr ⟨rfl, .ret, hIx _ _ _ hi2 (below_put _ (by omega)), q2, q3⟩⟩
      | exit i =>
        obtain ⟨hV, hi2⟩ := hq
        obtain ⟨q1, q2, q3⟩ := fin (some (.exit i)) V hV
        exact ⟨_, _, q1, .inr ⟨rfl, .exit i, hIx _ _ _ hi2 (below_put _ (by omega)), q2, q3⟩⟩
      | goto t =>
        obtain ⟨hV, hi2⟩ := hq
        obtain ⟨q1, q2, q3⟩ := fin (some (.goto t)) V hV
        exact ⟨_, _, q1, .inr ⟨rfl, .goto t, hIx _ _ _ hi2 (below_put _ (by omega)), q2, q3⟩⟩
      | panic c => exact hq.elim
      | outgrown => exact hq.elim
    | exit i => exact hp.elim
    | goto t => exact hp.elim
    | ret => exact hp.elim
    | panic c => exact hp.elim
    | outgrown => exact hp.elim
  · rintro e X ⟨⟨v, rfl⟩, ⟨k, hk, hi, hr, hd⟩ | ⟨c, hi, hr, hd⟩⟩
    · have q := run_endLoop (P := P) hr (by rw [hrc]; simp)
      rw [hrc] at q
      exact ⟨none, _, q, hdone _ k _ (Nat.le_refl _) hk (hI _ _ _ hi (below_put _ (by omega))) ((World.putObj_heap_other (by omega)).trans hd)⟩
    · have q := run_endLoop (P := P) hr (by rw [hrc]; simp)
      rw [hrc] at q
      exact ⟨some c, _, q, hstop _ c _ (Nat.le_refl _) (hIx _ _ _ hi (below_put _ (by omega))) ((World.putObj_heap_other (by omega)).trans hd)⟩
end RG
end Go.Proofs.YtiidbbnclhknpaaDoor
