/-
  What a draw does to memory: one block (the reader's) may turn, new ones may come; the reader's state.
-/
import Derived.Test.YtlkompbigpbefabRows
import Derived.WalkKit
import Derived.Below
import Derived.Deep.Draws
namespace Go.Proofs.Ytlkompbigpbefab
open Go.RowKit
namespace DK

/-- Of the blocks below 'n' none but 'k' has turned. -/
structure Tch (k n : Nat) (w w' : World) : Prop where
  os : w'.os = w.os
  tape : w'.tape = w.tape
  output : w'.output = w.output
  size : w.heap.size ≤ w'.heap.size
  block : ∀ j, j < n → j ≠ k → w'.heap[j]? = w.heap[j]?

theorem Tch.refl (k n : Nat) (w : World) : Tch k n w w := ⟨rfl, rfl, rfl, Nat.le_refl _, fun _ _ _ => rfl⟩
theorem Tch.trans {k n : Nat} {a b c : World} (h : Tch k n a b) (g : Tch k n b c) : Tch k n a c :=
  ⟨g.os.trans h.os, g.tape.trans h.tape, g.output.trans h.output, Nat.le_trans h.size g.size, fun j hj hk => (g.block j hj hk).trans (h.block j hj hk)⟩
theorem Tch.mono {k n n' : Nat} {w w' : World} (h : Tch k n w w') (hn : n' ≤ n) : Tch k n' w w' :=
  ⟨h.os, h.tape, h.output, h.size, fun j hj hk => h.block j (Nat.lt_of_lt_of_le hj hn) hk⟩
theorem Tch.drewN {k n : Nat} {a w : World} (h : Tch k n a w) (m : Nat) : Tch k n a (w.drewN m) := ⟨h.os, h.tape, h.output, h.size, h.block⟩
theorem Tch.drew {k n : Nat} {a w : World} (h : Tch k n a w) : Tch k n a w.drew := ⟨h.os, h.tape, h.output, h.size, h.block⟩
theorem Tch.ofBelow {k n : Nat} {w w' : World} (h : Below n w w') : Tch k n w w' := ⟨h.os, h.tape, h.output, h.size, fun j hj _ => h.block j hj⟩
theorem Tch.toBelow {k n B : Nat} {w w' : World} (h : Tch k n w w') (hn : B ≤ n) (hk : B ≤ k) : Below B w w' :=
  ⟨h.os, h.tape, h.output, h.size, fun j hj => h.block j (by omega) (by omega)⟩
theorem Tch.setCell {k n : Nat} {a w : World} (h : Tch k n a w) (o : Nat) (u : Value) : Tch k n a (w.setCell ⟨k, o, none⟩ u) :=
  h.trans ⟨rfl, rfl, rfl, by simp [World.setCell], fun j _ hk => Below.heap_setCell _ _ _ _ hk⟩
theorem Tch.alloc {k n : Nat} {a w : World} (h : Tch k n a w) (hn : n ≤ w.heap.size) (o : Obj) : Tch k n a (w.alloc o) :=
  h.trans ⟨rfl, rfl, rfl, by simp, fun j hj _ => Below.heap_alloc _ _ _ (by omega)⟩
theorem Tch.cell {k n : Nat} {w w' : World} (h : Tch k n w w') {b o : Nat} (hb : b < n) (hk : b ≠ k) : w'.cell? ⟨b, o, none⟩ = w.cell? ⟨b, o, none⟩ := World.cell?_of_block (w := w) (h.block b hb hk)
theorem Tch.frozen {k n : Nat} {w w' : World} (h : Tch k n w w') {b o : Nat} (hb : b < n) (hk : b ≠ k) : w'.frozen? ⟨b, o, none⟩ = w.frozen? ⟨b, o, none⟩ := World.frozen?_of_block (w := w) (h.block b hb hk)

theorem xor_i64 (x y : Int) (h1 : 0 ≤ x) (h2 : x < 4611686018427387904) (h3 : 0 ≤ y) (h4 : y < 4611686018427387904) :
    0 ≤ bits .xor .i64 x y ∧ bits .xor .i64 x y < 4611686018427387904 := by
  obtain ⟨a, rfl⟩ := Int.eq_ofNat_of_zero_le h1
  obtain ⟨b, rfl⟩ := Int.eq_ofNat_of_zero_le h3
  have hx : a ^^^ b < 2 ^ 62 := Nat.xor_lt_two_pow (by omega) (by omega)
  have g1 : (BitVec.ofInt 64 (a : Int)).toNat = a := by
    rw [BitVec.ofInt_natCast, BitVec.toNat_ofNat]; exact Nat.mod_eq_of_lt (by omega)
  have g2 : (BitVec.ofInt 64 (b : Int)).toNat = b := by
    rw [BitVec.ofInt_natCast, BitVec.toNat_ofNat]; exact Nat.mod_eq_of_lt (by omega)
  have e : bits .xor .i64 (a : Int) (b : Int) = ((a ^^^ b : Nat) : Int) := by
    show IntKind.i64.wrap ((BitVec.ofInt 64 (a : Int) ^^^ BitVec.ofInt 64 (b : Int)).toNat : Int) = _
    rw [BitVec.toNat_xor, g1, g2]
    simp [IntKind.wrap, IntKind.bits, IntKind.signed]
    omega
  rw [e]
  omega
theorem tmod_in {x n : Int} (h : 0 ≤ x) (hn : 1 ≤ n) : 0 ≤ x.tmod n ∧ x.tmod n < n := by
  rw [Int.tmod_eq_emod_of_nonneg h]
  exact ⟨Int.emod_nonneg _ (by omega), Int.emod_lt_of_pos _ (by omega)⟩

theorem Tch.cells {k n : Nat} {w w' : World} (h : Tch k n w w') : ∀ b o, b < n → b ≠ k → w'.cell? ⟨b, o, none⟩ = w.cell? ⟨b, o, none⟩ := fun _ _ h1 h2 => h.cell h1 h2

/-- 'len' bytes lie from there on, in a block below 'k'. -/
def Bytes (w : World) (k : Nat) (a : Option Addr) (len : Nat) : Prop :=
  len = 0 ∨ ∃ b off, a = some ⟨b, off, none⟩ ∧ b < k ∧ ∀ i, i < len → ∃ z : Int, 0 ≤ z ∧ z ≤ 255 ∧ w.cell? ⟨b, off + i, none⟩ = some (.int .u8 z)

/-- The reader lies in block 'k'; it has read 'p' times. -/
def Rd (w : World) (k p : Nat) : Prop := ∃ a len cap, w.cell? ⟨k, 0, none⟩ = some (.slice a len cap) ∧ w.cell? ⟨k, 1, none⟩ = some (.int .i64 p) ∧ w.frozen? ⟨k, 1, none⟩ = false ∧ len ≤ 2000 ∧ Bytes w k a len

theorem cell_lt {w : World} {b o : Nat} {v : Value} (h : w.cell? ⟨b, o, none⟩ = some v) : b < w.heap.size := by
  by_cases c : b < w.heap.size
  · exact c
  · have e : w.heap[b]? = none := by simp; omega
    simp [World.cell?, e] at h

/-- Behind a store of the count. -/
theorem Rd.next {w : World} {k p : Nat} (h : Rd w k p) (m : Nat) : Rd ((w.setCell ⟨k, 1, none⟩ (.int .i64 ((p : Int) + 1))).drewN m) k (p + 1) := by
  obtain ⟨a, len, cap, h0, h1, hf, hl, hB⟩ := h
  refine ⟨a, len, cap, ?_, ?_, ?_, hl, ?_⟩
  · simp [go_sem, h0]
  · simp [go_sem, h1]
  · simp [go_sem, hf]
  · rcases hB with rfl | ⟨b, off, rfl, hb, hz⟩
    · exact .inl rfl
    · refine .inr ⟨b, off, rfl, hb, fun i hi => ?_⟩
      obtain ⟨z, z0, z1, hc⟩ := hz i hi
      refine ⟨z, z0, z1, ?_⟩
      have hn : b ≠ k := by omega
      have t : Tch k w.heap.size w ((w.setCell ⟨k, 1, none⟩ (.int .i64 ((p : Int) + 1))).drewN m) := ((Tch.refl _ _ _).setCell _ _).drewN _
      rw [t.cell (cell_lt hc) hn]
      exact hc

theorem Rd.set {w : World} {k p p' : Nat} {q : Int} (hq : q = (p' : Int)) (h : Rd w k p) : Rd (w.setCell ⟨k, 1, none⟩ (.int .i64 q)) k p' := by
  subst hq
  obtain ⟨a, len, cap, h0, h1, hf, hl, hB⟩ := h
  refine ⟨a, len, cap, ?_, ?_, ?_, hl, ?_⟩
  · simp [go_sem, h0]
  · simp [go_sem, h1]
  · simp [go_sem, hf]
  · rcases hB with rfl | ⟨b, off, rfl, hb, hz⟩
    · exact .inl rfl
    · refine .inr ⟨b, off, rfl, hb, fun i hi => ?_⟩
      obtain ⟨z, z0, z1, hc⟩ := hz i hi
      refine ⟨z, z0, z1, ?_⟩
      have hn : b ≠ k := by omega
      have t : Tch k w.heap.size w (w.setCell ⟨k, 1, none⟩ (.int .i64 (p' : Int))) := (Tch.refl _ _ _).setCell _ _
      rw [t.cell (cell_lt hc) hn]
      exact hc

theorem Rd.setq {w : World} {k p : Nat} {q : Int} (hq : 0 ≤ q) (h : Rd w k p) : Rd (w.setCell ⟨k, 1, none⟩ (.int .i64 q)) k q.toNat := Rd.set (by omega) h
theorem le_alloc {n : Nat} {w : World} (o : Obj) (h : n ≤ w.heap.size) : n ≤ (w.alloc o).heap.size := by simp; omega
theorem le_setCell {n : Nat} {w : World} (a : Addr) (v : Value) (h : n ≤ w.heap.size) : n ≤ (w.setCell a v).heap.size := by simpa [World.setCell] using h
theorem le_drewN {n : Nat} {w : World} (m : Nat) (h : n ≤ w.heap.size) : n ≤ (w.drewN m).heap.size := h
theorem le_drew {n : Nat} {w : World} (h : n ≤ w.heap.size) : n ≤ w.drew.heap.size := h
theorem got {l : List Value} {i : Nat} {v : Value} {h : i < l.length} (e : l[i]? = some v) : l[i] = v := (List.getElem?_eq_some_iff.1 e).2

/-- Behind whatever leaves the reader's block and the bytes' alone. -/
theorem Rd.kept {w w' : World} {k p : Nat} (h : Rd w k p) (hk : Below w.heap.size w w') : Rd w' k p := by
  obtain ⟨a, len, cap, h0, h1, hf, hl, hB⟩ := h
  refine ⟨a, len, cap, ?_, ?_, ?_, hl, ?_⟩
  · rw [hk.cell (cell_lt h0)]; exact h0
  · rw [hk.cell (cell_lt h1)]; exact h1
  · rw [hk.frozen (cell_lt h1)]; exact hf
  · rcases hB with rfl | ⟨b, off, rfl, hb, hz⟩
    · exact .inl rfl
    · refine .inr ⟨b, off, rfl, hb, fun i hi => ?_⟩
      obtain ⟨z, z0, z1, hc⟩ := hz i hi
      refine ⟨z, z0, z1, ?_⟩
      rw [hk.cell (cell_lt hc)]
      exact hc
theorem Rd.drewN {w : World} {k p : Nat} (m : Nat) (h : Rd w k p) : Rd (w.drewN m) k p := h
theorem Rd.drew {w : World} {k p : Nat} (h : Rd w k p) : Rd w.drew k p := h
theorem Rd.alloc {w : World} {k p : Nat} (o : Obj) (h : Rd w k p) : Rd (w.alloc o) k p := h.kept ((Below.refl _ _).alloc (Nat.le_refl _) _)
theorem Rd.lt {w : World} {k p : Nat} (h : Rd w k p) : k < w.heap.size := by
  obtain ⟨a, len, cap, h0, _⟩ := h
  exact cell_lt h0

/-- A slice of bytes that came in. -/
def Src (w : World) (a : Option Addr) (len cap : Nat) : Prop :=
  len ≤ cap ∧ cap ≤ 9223372036854775807 ∧ (len = 0 ∨ ∃ b off, a = some ⟨b, off, none⟩ ∧ ∀ i, i < len → ∃ z : Int, 0 ≤ z ∧ z ≤ 255 ∧ w.cell? ⟨b, off + i, none⟩ = some (.int .u8 z))
theorem Src.kept {w w' : World} {a : Option Addr} {len cap : Nat} (h : Src w a len cap) (hk : Below w.heap.size w w') : Src w' a len cap := by
  obtain ⟨h1, h2, h3⟩ := h
  refine ⟨h1, h2, ?_⟩
  rcases h3 with rfl | ⟨b, off, rfl, hz⟩
  · exact .inl rfl
  · refine .inr ⟨b, off, rfl, fun i hi => ?_⟩
    obtain ⟨z, z0, z1, hc⟩ := hz i hi
    exact ⟨z, z0, z1, by rw [hk.cell (cell_lt hc)]; exact hc⟩
/-- The reader as it is made. -/
theorem Rd.made {w : World} {a : Option Addr} {len cap n cap' : Nat} {t : TypeId} (h : Src w a len cap) (hn : n ≤ len) (hn2 : n ≤ 2000) :
    Rd (w.alloc (.cells #[.slice a n cap', .int .i64 0] t)) w.heap.size 0 := by
  obtain ⟨h1, h2, h3⟩ := h
  refine ⟨a, n, cap', by simp [go_sem], by simp [go_sem], by simp [go_sem], hn2, ?_⟩
  rcases h3 with rfl | ⟨b, off, rfl, hz⟩
  · exact .inl (by omega)
  · by_cases h0 : n = 0
    · exact .inl h0
    · obtain ⟨_, _, _, hc⟩ := hz 0 (by omega)
      have hb : b < w.heap.size := cell_lt hc
      refine .inr ⟨b, off, rfl, hb, fun i hi => ?_⟩
      obtain ⟨z, z0, z1, hc⟩ := hz i (by omega)
      refine ⟨z, z0, z1, ?_⟩
      rw [World.cell?_alloc_past _ _ _ hb]
      exact hc

end DK
end Go.Proofs.Ytlkompbigpbefab
