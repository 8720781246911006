/-
  The text of an angle read, by the specification: what its AngRead answers.
-/
import Derived.Test.YtlhkedollclfiafRows
import Derived.Test.YtlhkedollclfiafAngText
import Derived.Test.YtlhkedollclfiafTextWalks
import Derived.Test.YtlhkedollclfiafAngWalks
import Derived.Test.YtlhkedollclfiafAngTextWalks
import Derived.Test.YtlhkedollclfiafKeptStep
import Derived.WalkKit
import Derived.Below
import Derived.LoopTactic
import Derived.Lib.QuietBelow
namespace Go.Proofs.Ytlhkedollclfiaf
open Go.RowKit Go.Sort
set_option linter.unusedVariables false
namespace AW
open AM AT
def readB (t : List UInt8) : Bool := (readO t).isSome
def readV (t : List UInt8) : Int := (readO t).getD 0
structure Four (w : World) (c : Nat) (s : St) : Prop where
  c0 : w.cell? ⟨c, 0, none⟩ = some (.int .i64 s.n0)
  c1 : w.cell? ⟨c, 1, none⟩ = some (.int .i64 s.n1)
  c2 : w.cell? ⟨c, 2, none⟩ = some (.int .i64 s.n2)
  c3 : w.cell? ⟨c, 3, none⟩ = some (.int .i64 s.n3)
  f0 : w.frozen? ⟨c, 0, none⟩ = false
  f1 : w.frozen? ⟨c, 1, none⟩ = false
  f2 : w.frozen? ⟨c, 2, none⟩ = false
  f3 : w.frozen? ⟨c, 3, none⟩ = false
structure Low (s : St) : Prop where
  a0 : 0 ≤ s.n0
  a1 : 0 ≤ s.n1
  a2 : 0 ≤ s.n2
  a3 : 0 ≤ s.n3
  b0 : s.n0 ≤ 1000
  b1 : s.n1 ≤ 1000
  b2 : s.n2 ≤ 1000
  b3 : s.n3 ≤ 1000
  k : s.k ≤ 3
theorem run_split {t : List UInt8} {j : Nat} {b : UInt8} {s : St} (hb : t[j]? = some b) (hr : run (t.take j) init = some s) : run t init = (run [b] s).bind (run (t.drop (j + 1))) ∧ run (t.take (j + 1)) init = run [b] s := by
  obtain ⟨hj, hb'⟩ := List.getElem?_eq_some_iff.1 hb
  have e1 : t.take (j + 1) = t.take j ++ [b] := by rw [List.take_succ_eq_append_getElem hj, hb']
  have e2 : t = t.take j ++ ([b] ++ t.drop (j + 1)) := by
    rw [← List.append_assoc, ← e1, List.take_append_drop]
  constructor
  · conv => lhs; rw [e2]
    rw [run_append, hr, Option.bind_some, run_append]
  · rw [e1, run_append, hr, Option.bind_some]
theorem run_next {t : List UInt8} {j : Nat} {b : UInt8} {s : St} (hb : t[j]? = some b) (hr : run (t.take j) init = some s) (h : (AT.step s b).get ≤ 1000) : run (t.take (j + 1)) init = some (AT.step s b) := by
  rw [(run_split hb hr).2]
  simp only [run]
  rw [if_neg (by omega)]
theorem run_stop {t : List UInt8} {j : Nat} {b : UInt8} {s : St} (hb : t[j]? = some b) (hr : run (t.take j) init = some s) (h : 1000 < (AT.step s b).get) : run t init = none := by
  rw [(run_split hb hr).1]
  simp only [run]
  rw [if_pos h]
  rfl
theorem read_run {t : List UInt8} (h : run t init = none) : readO t = none := by
  unfold readO
  split
  · rfl
  · rw [h]
theorem read_no {t : List UInt8} (h : readO t = none) : Ending.returned (.tuple #[.int .i64 0, .bool false]) = .returned (.tuple #[.int .i64 (readV t), .bool (readB t)]) := by
  unfold readV readB
  rw [h]
  rfl
theorem step_dig {s : St} {b : UInt8} (h0 : 48 ≤ b.toNat) (h1 : b.toNat ≤ 57) : AT.step s b = s.put (s.get * 10 + ((b.toNat : Int) - 48)) := by
  unfold AT.step
  rw [if_pos ⟨h0, h1⟩]
theorem step_same {s : St} {b : UInt8} (h : b.toNat = 45 ∨ b.toNat = 115 ∨ s.k = 3) (h0 : ¬ (48 ≤ b.toNat ∧ b.toNat ≤ 57)) : AT.step s b = s := by
  unfold AT.step
  rw [if_neg h0, if_neg (by omega)]
theorem step_on {s : St} {b : UInt8} (h0 : ¬ (48 ≤ b.toNat ∧ b.toNat ≤ 57)) (h1 : b.toNat ≠ 45) (h2 : b.toNat ≠ 115) (h3 : s.k < 3) : AT.step s b = { s with k := s.k + 1 } := by
  unfold AT.step
  rw [if_neg h0, if_pos ⟨h1, h2, h3⟩]
theorem head_neg (b : UInt8) (r : List UInt8) : ((b.toNat : Int) == 45) = neg (b :: r) := by
  unfold neg
  by_cases h : b = 45
  · subst h; rfl
  · have : ¬ b.toNat = 45 := fun e => h (UInt8.toNat_inj.1 e)
    have e1 : ((b.toNat : Int) == 45) = false := by simp; omega
    rw [e1]
    simp [h]
theorem read_of1 {t : List UInt8} {n0 n1 n2 n3 : Int} {k : Nat} (hr : run t init = some ⟨n0, n1, n2, n3, k⟩) (h : ofB (neg t) n0 n1 n2 n3 = false) : readO t = none := by
  unfold readO
  split
  · rfl
  · rw [hr]
    simp [h]
theorem read_of3 {t : List UInt8} {n0 n1 n2 n3 : Int} {k : Nat} (hr : run t init = some ⟨n0, n1, n2, n3, k⟩) (h : ¬ text (ofV (neg t) n0 n1 n2 n3) = t) : readO t = none := by
  unfold readO
  split
  · rfl
  · rw [hr]
    simp [h]
theorem read_of2 {t : List UInt8} {n0 n1 n2 n3 : Int} {k : Nat} (hr : run t init = some ⟨n0, n1, n2, n3, k⟩) (h : ofB (neg t) n0 n1 n2 n3 = true) (g : text (ofV (neg t) n0 n1 n2 n3) = t) (hl : t.length ≤ 20) :
    Ending.returned (.tuple #[.int .i64 (ofV (neg t) n0 n1 n2 n3), .bool true]) = .returned (.tuple #[.int .i64 (readV t), .bool (readB t)]) := by
  have e : readO t = some (ofV (neg t) n0 n1 n2 n3) := by
    unfold readO
    rw [if_neg (by omega), hr]
    simp only [h, true_and]
    rw [if_pos g]
  unfold readV readB
  rw [e]
  rfl
end AW
end Go.Proofs.Ytlhkedollclfiaf
