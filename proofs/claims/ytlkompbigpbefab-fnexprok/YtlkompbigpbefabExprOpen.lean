/-
  A tree that came in, by value: what its reading says of memory.
-/
import Derived.Test.YtlkompbigpbefabExprRep
import Derived.Lib.SmallJoins
import Derived.ProofKit
import Derived.OpenShut
namespace Go.Proofs.Ytlkompbigpbefab
open Go.ChangeShapes Go.WideShapes Go.ChangeAt Go.RowKit Go.Joins Go.Deep
set_option linter.unusedVariables false
set_option maxRecDepth 8000
namespace ER
open EM SK
/-- No row of Kids is longer than any row can be. -/
def low : F → Prop
  | .nil => True
  | .cons _ _ _ s r => (s.len ≤ maxLen ∧ low s) ∧ low r
theorem row_of {w : World} : ∀ (n b o : Nat), (∀ i, i < n → ∃ (k a c : Int) (t : F) (v : Value), (t.len ≤ maxLen ∧ low t) ∧ w.cell? ⟨b, o + 4 * i, none⟩ = some (.int .i64 k) ∧ w.cell? ⟨b, o + 4 * i + 1, none⟩ = some (.int .i64 a) ∧ w.cell? ⟨b, o + 4 * i + 2, none⟩ = some (.int .i64 c) ∧ w.cell? ⟨b, o + 4 * i + 3, none⟩ = some v ∧ Kids w t v) →
    ∃ f : F, f.len = n ∧ Row w f b o ∧ low f
  | 0, b, o, _ => ⟨.nil, rfl, trivial, trivial⟩
  | n + 1, b, o, h => by
    obtain ⟨f, hf, R, hl⟩ := row_of n b (o + 4) fun i hi => by
      have := h (i + 1) (by omega)
      rw [show o + 4 * (i + 1) = o + 4 + 4 * i by omega] at this
      exact this
    obtain ⟨k, a, c, t, v, ht, h0, h1, h2, h3, p, m, cap, rfl, hm, hr⟩ := h 0 (by omega)
    exact ⟨.cons k a c t f, by simp only [F.len, hf], ⟨⟨h0, h1, h2⟩, ⟨p, m, cap, h3, hm, hr⟩, R⟩, ht, hl⟩
theorem cells4 {w : World} {a : Addr} {l : List Value} (h : w.cells? 0 a 4 = some l) : ∃ c0 c1 c2 c3, l = [c0, c1, c2, c3] ∧ w.cell? a = some c0 ∧ w.cell? (a.add 1) = some c1 ∧ w.cell? (a.add 2) = some c2 ∧ w.cell? (a.add 3) = some c3 := by
  unfold World.cells? at h
  rw [if_pos (Nat.zero_le _)] at h
  have e : (List.range 4) = [0, 1, 2, 3] := rfl
  rw [e] at h
  simp only [List.mapM_cons, List.mapM_nil, Option.bind_eq_bind, Option.bind_eq_some_iff, Option.pure_def, Option.some.injEq] at h
  obtain ⟨c0, h0, l1, ⟨c1, h1, l2, ⟨c2, h2, l3, ⟨c3, h3, l4, rfl, rfl⟩, rfl⟩, rfl⟩, rfl⟩ := h
  exact ⟨c0, c1, c2, c3, rfl, h0, h1, h2, h3⟩
theorem no_spot {w : World} {a : Addr} {v : Value} (h : w.cell? a = some v) : a = ⟨a.block, a.off, none⟩ := by
  obtain ⟨b, o, s⟩ := a
  cases s with
  | none => rfl
  | some s =>
    simp only [World.cell?] at h
    split at h <;> simp at h
section
variable {H : Type} {enc : TypeId × Value → H} {w : World} {spare : Nat → Bool} {held : Bool}
theorem cellsExpr : Try.prog.cellsOf 33 = 4 := by kernel_rfl
theorem cells1 : Try.prog.cellsOf 3 = 1 ∧ Try.prog.cellsOf 31 = 1 := ⟨by kernel_rfl, by kernel_rfl⟩
theorem kids_of : ∀ (fuel : Nat) (cs : List Value) (x : DataW H × List MemPlace), DataW.trod enc Try.prog w 0 spare held fuel 31 cs = some x → ∃ (t : F) (v : Value), cs = [v] ∧ Kids w t v ∧ t.len ≤ maxLen ∧ low t := by
  intro fuel
  induction fuel using Nat.strongRecOn with
  | ind fuel ih =>
    intro cs x h
    rcases DataW.trod_slice Try.underlying31 h with ⟨rfl, _⟩ | ⟨a, len, cap, elems, rest, n, rfl, rfl, -, -, hlc, hcm, hel, he, -, -⟩
    · exact ⟨.nil, _, rfl, ⟨none, 0, 0, rfl, rfl, .inl rfl⟩, Nat.zero_le _, trivial⟩
    · rw [cellsExpr] at he
      have node : ∀ i, i < len → ∃ (k b c : Int) (t : F) (v : Value), (t.len ≤ maxLen ∧ low t) ∧ w.cell? (a.add (i * 4)) = some (.int .i64 k) ∧ w.cell? ((a.add (i * 4)).add 1) = some (.int .i64 b) ∧ w.cell? ((a.add (i * 4)).add 2) = some (.int .i64 c) ∧ w.cell? ((a.add (i * 4)).add 3) = some v ∧ Kids w t v := by
        intro i hi
        have hi' := he i hi
        obtain ⟨y, hy⟩ : ∃ y, elems[i]? = some y := ⟨_, List.getElem?_eq_getElem (by omega)⟩
        rw [hy] at hi'
        obtain ⟨l, hl, hx⟩ := Option.bind_eq_some_iff.1 hi'
        obtain ⟨c0, c1, c2, c3, rfl, h0, h1, h2, h3⟩ := cells4 hl
        obtain ⟨xs, m, rfl, _, _, hlen, hf⟩ := DataW.trod_struct Try.underlying33 hx
        match xs, hlen with
        | [y0, y1, y2, y3], _ =>
          have f0 : DataW.trod enc Try.prog w 0 spare held m 3 (List.take (Try.prog.cellsOf 3) (List.drop 0 [c0, c1, c2, c3])) = some y0 := hf 0 _ rfl
          have f1 : DataW.trod enc Try.prog w 0 spare held m 3 (List.take (Try.prog.cellsOf 3) (List.drop 1 [c0, c1, c2, c3])) = some y1 := hf 1 _ rfl
          have f2 : DataW.trod enc Try.prog w 0 spare held m 3 (List.take (Try.prog.cellsOf 3) (List.drop 2 [c0, c1, c2, c3])) = some y2 := hf 2 _ rfl
          have f3 : DataW.trod enc Try.prog w 0 spare held m 31 (List.take (Try.prog.cellsOf 31) (List.drop 3 [c0, c1, c2, c3])) = some y3 := hf 3 _ rfl
          rw [cells1.1] at f0 f1 f2
          rw [cells1.2] at f3
          obtain ⟨k, e0, -, -⟩ := DataW.trod_int Try.underlying3 f0
          obtain ⟨b, e1, -, -⟩ := DataW.trod_int Try.underlying3 f1
          obtain ⟨c, e2, -, -⟩ := DataW.trod_int Try.underlying3 f2
          obtain ⟨t, v, e3, hk, ht⟩ := ih m (by omega) _ _ f3
          simp at e0 e1 e2 e3
          subst e0 e1 e2 e3
          exact ⟨k, b, c, t, _, ht, h0, h1, h2, h3, hk⟩
      by_cases hz : len = 0
      · subst hz
        exact ⟨.nil, _, rfl, ⟨_, 0, cap, rfl, rfl, .inl rfl⟩, Nat.zero_le _, trivial⟩
      · have ha : a = ⟨a.block, a.off, none⟩ := by
          obtain ⟨_, _, _, _, _, _, h0, _⟩ := node 0 (by omega)
          exact no_spot (by simpa [Addr.add] using h0)
        generalize a.block = b at ha
        generalize a.off = o at ha
        subst ha
        have ad : ∀ j, (⟨b, o, none⟩ : Addr).add j = ⟨b, o + j, none⟩ := fun j => by unfold Addr.add; by_cases h : j = 0 <;> simp [h]
        have ad2 : ∀ i j, ((⟨b, o, none⟩ : Addr).add (i * 4)).add j = ⟨b, o + 4 * i + j, none⟩ := fun i j => by rw [ad]; unfold Addr.add; by_cases h : j = 0 <;> simp [h, Nat.mul_comm]
        obtain ⟨f, hf, R, hlo⟩ := row_of len b o fun i hi => by
          obtain ⟨k, b', c, t, v, ht, h0, h1, h2, h3, hk⟩ := node i hi
          rw [ad2] at h1 h2 h3
          rw [ad, Nat.mul_comm] at h0
          exact ⟨k, b', c, t, v, ht, h0, h1, h2, h3, hk⟩
        exact ⟨f, _, rfl, ⟨_, len, cap, rfl, hf.symm, .inr ⟨b, o, rfl, R⟩⟩, by omega, hlo⟩
/-- A tree that came in. -/
theorem open_expr {r : Reach} {b0 : Nat} {v : Value} {d : DataW H} {p : List MemPlace} (hv : Value.okWide Try.prog w r b0 33 v) (h : DataW.Trod enc Try.prog w 0 spare held 33 v d p) :
    ∃ (k a c : Int) (t : F) (u : Value), v = exV k a c u ∧ Kids w t u ∧ t.len ≤ maxLen ∧ low t := by
  obtain ⟨cs, rfl, hsz⟩ := okWide_struct Try.underlying33 hv
  obtain ⟨fuel, hf⟩ := h
  obtain ⟨xs, m, rfl, _, hl, hlen, hf⟩ := DataW.trod_struct Try.underlying33 hf
  obtain ⟨l⟩ := cs
  match l, hsz.trans cellsExpr, xs, hlen with
  | [c0, c1, c2, c3], _, [y0, y1, y2, y3], _ =>
    have f0 : DataW.trod enc Try.prog w 0 spare held m 3 (List.take (Try.prog.cellsOf 3) (List.drop 0 [c0, c1, c2, c3])) = some y0 := hf 0 _ rfl
    have f1 : DataW.trod enc Try.prog w 0 spare held m 3 (List.take (Try.prog.cellsOf 3) (List.drop 1 [c0, c1, c2, c3])) = some y1 := hf 1 _ rfl
    have f2 : DataW.trod enc Try.prog w 0 spare held m 3 (List.take (Try.prog.cellsOf 3) (List.drop 2 [c0, c1, c2, c3])) = some y2 := hf 2 _ rfl
    have f3 : DataW.trod enc Try.prog w 0 spare held m 31 (List.take (Try.prog.cellsOf 31) (List.drop 3 [c0, c1, c2, c3])) = some y3 := hf 3 _ rfl
    rw [cells1.1] at f0 f1 f2
    rw [cells1.2] at f3
    obtain ⟨k, e0, -, -⟩ := DataW.trod_int Try.underlying3 f0
    obtain ⟨b, e1, -, -⟩ := DataW.trod_int Try.underlying3 f1
    obtain ⟨c, e2, -, -⟩ := DataW.trod_int Try.underlying3 f2
    obtain ⟨t, v, e3, hk⟩ := kids_of m _ _ f3
    simp at e0 e1 e2 e3
    subst e0 e1 e2 e3
    exact ⟨k, b, c, t, _, rfl, hk⟩
end
end ER
end Go.Proofs.Ytlkompbigpbefab
