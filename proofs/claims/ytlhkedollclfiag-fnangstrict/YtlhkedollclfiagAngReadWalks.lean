/-
  The text of an angle read, by the specification: what its AngRead answers.
-/
import Derived.Test.YtlhkedollclfiagRows
import Derived.Test.YtlhkedollclfiagAngText
import Derived.Test.YtlhkedollclfiagTextWalks
import Derived.Test.YtlhkedollclfiagAngWalks
import Derived.Test.YtlhkedollclfiagAngTextWalks
import Derived.Test.YtlhkedollclfiagKeptStep
import Derived.WalkKit
import Derived.Below
import Derived.LoopTactic
import Derived.Lib.QuietBelow
namespace Go.Proofs.Ytlhkedollclfiag
open Go.RowKit Go.Sort
set_option linter.unusedVariables false
namespace AW
open AM AT
def readB (t : List UInt8) : Bool := (readO t).isSome
def readV (t : List UInt8) : Int := (readO t).getD 0
structure Four (w : World) (c : Nat) (s : St) : Prop where
  c0 : w.cell? ⟨c, 0, none⟩ = some (.int .i64 s.n0)
  c1 : w.cell? ⟨c, 1, none⟩ = some (.int .i64 s.n1)
  c2 : w.cell? ⟨c, 2, none⟩ = some (.int .i64 s.n2)
  c3 : w.cell? ⟨c, 3, none⟩ = some (.int .i64 s.n3)
  f0 : w.frozen? ⟨c, 0, none⟩ = false
  f1 : w.frozen? ⟨c, 1, none⟩ = false
  f2 : w.frozen? ⟨c, 2, none⟩ = false
  f3 : w.frozen? ⟨c, 3, none⟩ = false
structure Low (s : St) : Prop where
  a0 : 0 ≤ s.n0
  a1 : 0 ≤ s.n1
  a2 : 0 ≤ s.n2
  a3 : 0 ≤ s.n3
  b0 : s.n0 ≤ 1000
  b1 : s.n1 ≤ 1000
  b2 : s.n2 ≤ 1000
  b3 : s.n3 ≤ 1000
  k : s.k ≤ 3
theorem run_split {t : List UInt8} {j : Nat} {b : UInt8} {s : St} (hb : t[j]? = some b) (hr : run (t.take j) init = some s) : run t init = (run [b] s).bind (run (t.drop (j + 1))) ∧ run (t.take (j + 1)) init = run [b] s := by
  obtain ⟨hj, hb'⟩ := List.getElem?_eq_some_iff.1 hb
  have e1 : t.take (j + 1) = t.take j ++ [b] := by rw [List.take_succ_eq_append_getElem hj, hb']
  have e2 : t = t.take j ++ ([b] ++ t.drop (j + 1)) := by
    rw [← List.append_assoc, ← e1, List.take_append_drop]
  constructor
  · conv => lhs; rw [e2]
    rw [run_append, hr, Option.bind_some, run_append]
  · rw [e1, run_append, hr, Option.bind_some]
theorem run_next {t : List UInt8} {j : Nat} {b : UInt8} {s : St} (hb : t[j]? = some b) (hr : run (t.take j) init = some s) (h : (AT.step s b).get ≤ 1000) : run (t.take (j + 1)) init = some (AT.step s b) := by
  rw [(run_split hb hr).2]
  simp only [run]
  rw [if_neg (by omega)]
theorem run_stop {t : List UInt8} {j : Nat} {b : UInt8} {s : St} (hb : t[j]? = some b) (hr : run (t.take j) init = some s) (h : 1000 < (AT.step s b).get) : run t init = none := by
  rw [(run_split hb hr).1]
  simp only [run]
  rw [if_pos h]
  rfl
theorem read_run {t : List UInt8} (h : run t init = none) : readO t = none := by
  unfold readO
  split
  · rfl
  · rw [h]
theorem read_no {t : List UInt8} (h : readO t = none) : Ending.returned (.tuple #[.int .i64 0, .bool false]) = .returned (.tuple #[.int .i64 (readV t), .bool (readB t)]) := by
  unfold readV readB
  rw [h]
  rfl
theorem step_dig {s : St} {b : UInt8} (h0 : 48 ≤ b.toNat) (h1 : b.toNat ≤ 57) : AT.step s b = s.put (s.get * 10 + ((b.toNat : Int) - 48)) := by
  unfold AT.step
  rw [if_pos ⟨h0, h1⟩]
theorem step_same {s : St} {b : UInt8} (h : b.toNat = 45 ∨ b.toNat = 115 ∨ s.k = 3) (h0 : ¬ (48 ≤ b.toNat ∧ b.toNat ≤ 57)) : AT.step s b = s := by
  unfold AT.step
  rw [if_neg h0, if_neg (by omega)]
theorem step_on {s : St} {b : UInt8} (h0 : ¬ (48 ≤ b.toNat ∧ b.toNat ≤ 57)) (h1 : b.toNat ≠ 45) (h2 : b.toNat ≠ 115) (h3 : s.k < 3) : AT.step s b = { s with k := s.k + 1 } := by
  unfold AT.step
  rw [if_neg h0, if_pos ⟨h1, h2, h3⟩]
theorem head_neg (b : UInt8) (r : List UInt8) : ((b.toNat : Int) == 45) = neg (b :: r) := by
  unfold neg
  by_cases h : b = 45
  · subst h; rfl
  · have : ¬ b.toNat = 45 := fun e => h (UInt8.toNat_inj.1 e)
    have e1 : ((b.toNat : Int) == 45) = false := by simp; omega
    rw [e1]
    simp [h]
theorem read_of1 {t : List UInt8} {n0 n1 n2 n3 : Int} {k : Nat} (hr : run t init = some ⟨n0, n1, n2, n3, k⟩) (h : ofB (neg t) n0 n1 n2 n3 = false) : readO t = none := by
  unfold readO
  split
  · rfl
  · rw [hr]
    simp [h]
theorem read_of3 {t : List UInt8} {n0 n1 n2 n3 : Int} {k : Nat} (hr : run t init = some ⟨n0, n1, n2, n3, k⟩) (h : ¬ text (ofV (neg t) n0 n1 n2 n3) = t) : readO t = none := by
  unfold readO
  split
  · rfl
  · rw [hr]
    simp [h]
theorem read_of2 {t : List UInt8} {n0 n1 n2 n3 : Int} {k : Nat} (hr : run t init = some ⟨n0, n1, n2, n3, k⟩) (h : ofB (neg t) n0 n1 n2 n3 = true) (g : text (ofV (neg t) n0 n1 n2 n3) = t) (hl : t.length ≤ 20) :
    Ending.returned (.tuple #[.int .i64 (ofV (neg t) n0 n1 n2 n3), .bool true]) = .returned (.tuple #[.int .i64 (readV t), .bool (readB t)]) := by
  have e : readO t = some (ofV (neg t) n0 n1 n2 n3) := by
    unfold readO
    rw [if_neg (by omega), hr]
    simp only [h, true_and]
    rw [if_pos g]
  unfold readV readB
  rw [e]
  rfl
set_option maxHeartbeats 16000000 in
theorem sRead_loop (t : List UInt8) (w : World) (hl : t.length ≤ 20) :
    Calls Try.prog 8 #[.string ⟨t.toArray⟩] w fun e w' => e = .returned (.tuple #[.int .i64 (readV t), .bool (readB t)]) ∧ Below w.heap.size w w' := by
  have F0 : Four (w.alloc (.cells #[.int .i64 0, .int .i64 0, .int .i64 0, .int .i64 0] 3)) w.heap.size init := ⟨by simp [go_sem, init], by simp [go_sem, init], by simp [go_sem, init], by simp [go_sem, init], by simp [go_sem], by simp [go_sem], by simp [go_sem], by simp [go_sem]⟩
  have L0 : Low init := ⟨by simp [init], by simp [init], by simp [init], by simp [init], by simp [init], by simp [init], by simp [init], by simp [init], by simp [init]⟩
  go_enter Try.func8, Try.ntmps8
  go_wp2_with fail
  go_loopw [5, 6] (fun kv iv wx => ∃ (j : Nat) (s : St), kv = .int .i64 s.k ∧ iv = .int .i64 j ∧ j ≤ t.length ∧ run (t.take j) init = some s ∧ Low s ∧ Four wx w.heap.size s ∧ Below w.heap.size w wx) (fun _ iv _ => (t.length - (intOf iv).toNat))
  case atStart => exact ⟨0, init, rfl, rfl, by omega, by simp [run], L0, F0, below_new _ _⟩
  case round =>
    clear F0 L0
    obtain ⟨j, ⟨n0, n1, n2, n3, k⟩, rfl, rfl, hj, hr, L, F, B⟩ := hrel
    have ⟨q0, q1, q2, q3, r0, r1, r2, r3⟩ := F
    have ⟨p0, p1, p2, p3, p4, p5, p6, p7, _⟩ := L
    simp only at p0 p1 p2 p3 p4 p5 p6 p7 q0 q1 q2 q3
    clear F
    by_cases h : j < t.length
    · obtain ⟨b, hb⟩ : ∃ b, t[j]? = some b := ⟨t[j], by simp [h]⟩
      have hB : ∀ hp : j < (ByteArray.mk t.toArray).size, (ByteArray.mk t.toArray)[j]'hp = b := fun hp => (List.getElem?_eq_some_iff.1 hb).2
      have hz : b.toNat < 256 := UInt8.toNat_lt b
      have hlt := cell_lt q0
      by_cases g : 48 ≤ b.toNat ∧ b.toNat ≤ 57
      · obtain ⟨g0, g1⟩ := g
        rcases (show k = 0 ∨ k = 1 ∨ k = 2 ∨ k = 3 by have := L.k; simp at this; omega) with rfl | rfl | rfl | rfl
        · have e : AT.step ⟨n0, n1, n2, n3, 0⟩ b = ⟨n0 * 10 + ((b.toNat : Int) - 48), n1, n2, n3, 0⟩ := step_dig g0 g1
          have x0 : 0 ≤ n0 * 10 + ((b.toNat : Int) - 48) := by omega
          have x1 : n0 * 10 + ((b.toNat : Int) - 48) ≤ 10009 := by omega
          have E2 : n0 * 10 + ((b.toNat : Int) - 48) = n0 * 10 + ((b.toNat : Int) - 48) := rfl
          by_cases v : 1000 < n0 * 10 + ((b.toNat : Int) - 48)
          · have R := Hidden.mk (read_no (read_run (run_stop hb hr (by rw [e]; exact v))))
            clear e hr
            go_wp2
            go_ret2
            exact ⟨R.out, B.setCell (by simp) _⟩
          · have R := Hidden.mk (run_next hb hr (by rw [e]; exact Int.not_lt.1 v))
            rw [e] at R
            clear e hr
            go_wp2_with fail
            go_roundw
            case rel => exact ⟨j + 1, ⟨n0 * 10 + ((b.toNat : Int) - 48), n1, n2, n3, 0⟩, rfl, by go_num, by omega, R.out, ⟨by simp; omega, by simp; omega, by simp; omega, by simp; omega, by simp; omega, by simp; omega, by simp; omega, by simp; omega, by simp⟩, ⟨by simp [go_sem, *], by simp [go_sem, *], by simp [go_sem, *], by simp [go_sem, *], by simp [go_sem, *], by simp [go_sem, *], by simp [go_sem, *], by simp [go_sem, *]⟩, B.setCell (by simp) _⟩
            case measure => simp [intOf]; omega
        · have e : AT.step ⟨n0, n1, n2, n3, 1⟩ b = ⟨n0, n1 * 10 + ((b.toNat : Int) - 48), n2, n3, 1⟩ := step_dig g0 g1
          have x0 : 0 ≤ n1 * 10 + ((b.toNat : Int) - 48) := by omega
          have x1 : n1 * 10 + ((b.toNat : Int) - 48) ≤ 10009 := by omega
          have E2 : n1 * 10 + ((b.toNat : Int) - 48) = n1 * 10 + ((b.toNat : Int) - 48) := rfl
          by_cases v : 1000 < n1 * 10 + ((b.toNat : Int) - 48)
          · have R := Hidden.mk (read_no (read_run (run_stop hb hr (by rw [e]; exact v))))
            clear e hr
            go_wp2
            go_ret2
            exact ⟨R.out, B.setCell (by simp) _⟩
          · have R := Hidden.mk (run_next hb hr (by rw [e]; exact Int.not_lt.1 v))
            rw [e] at R
            clear e hr
            go_wp2_with fail
            go_roundw
            case rel => exact ⟨j + 1, ⟨n0, n1 * 10 + ((b.toNat : Int) - 48), n2, n3, 1⟩, rfl, by go_num, by omega, R.out, ⟨by simp; omega, by simp; omega, by simp; omega, by simp; omega, by simp; omega, by simp; omega, by simp; omega, by simp; omega, by simp⟩, ⟨by simp [go_sem, *], by simp [go_sem, *], by simp [go_sem, *], by simp [go_sem, *], by simp [go_sem, *], by simp [go_sem, *], by simp [go_sem, *], by simp [go_sem, *]⟩, B.setCell (by simp) _⟩
            case measure => simp [intOf]; omega
        · have e : AT.step ⟨n0, n1, n2, n3, 2⟩ b = ⟨n0, n1, n2 * 10 + ((b.toNat : Int) - 48), n3, 2⟩ := step_dig g0 g1
          have x0 : 0 ≤ n2 * 10 + ((b.toNat : Int) - 48) := by omega
          have x1 : n2 * 10 + ((b.toNat : Int) - 48) ≤ 10009 := by omega
          have E2 : n2 * 10 + ((b.toNat : Int) - 48) = n2 * 10 + ((b.toNat : Int) - 48) := rfl
          by_cases v : 1000 < n2 * 10 + ((b.toNat : Int) - 48)
          · have R := Hidden.mk (read_no (read_run (run_stop hb hr (by rw [e]; exact v))))
            clear e hr
            go_wp2
            go_ret2
            exact ⟨R.out, B.setCell (by simp) _⟩
          · have R := Hidden.mk (run_next hb hr (by rw [e]; exact Int.not_lt.1 v))
            rw [e] at R
            clear e hr
            go_wp2_with fail
            go_roundw
            case rel => exact ⟨j + 1, ⟨n0, n1, n2 * 10 + ((b.toNat : Int) - 48), n3, 2⟩, rfl, by go_num, by omega, R.out, ⟨by simp; omega, by simp; omega, by simp; omega, by simp; omega, by simp; omega, by simp; omega, by simp; omega, by simp; omega, by simp⟩, ⟨by simp [go_sem, *], by simp [go_sem, *], by simp [go_sem, *], by simp [go_sem, *], by simp [go_sem, *], by simp [go_sem, *], by simp [go_sem, *], by simp [go_sem, *]⟩, B.setCell (by simp) _⟩
            case measure => simp [intOf]; omega
        · have e : AT.step ⟨n0, n1, n2, n3, 3⟩ b = ⟨n0, n1, n2, n3 * 10 + ((b.toNat : Int) - 48), 3⟩ := step_dig g0 g1
          have x0 : 0 ≤ n3 * 10 + ((b.toNat : Int) - 48) := by omega
          have x1 : n3 * 10 + ((b.toNat : Int) - 48) ≤ 10009 := by omega
          have E2 : n3 * 10 + ((b.toNat : Int) - 48) = n3 * 10 + ((b.toNat : Int) - 48) := rfl
          by_cases v : 1000 < n3 * 10 + ((b.toNat : Int) - 48)
          · have R := Hidden.mk (read_no (read_run (run_stop hb hr (by rw [e]; exact v))))
            clear e hr
            go_wp2
            go_ret2
            exact ⟨R.out, B.setCell (by simp) _⟩
          · have R := Hidden.mk (run_next hb hr (by rw [e]; exact Int.not_lt.1 v))
            rw [e] at R
            clear e hr
            go_wp2_with fail
            go_roundw
            case rel => exact ⟨j + 1, ⟨n0, n1, n2, n3 * 10 + ((b.toNat : Int) - 48), 3⟩, rfl, by go_num, by omega, R.out, ⟨by simp; omega, by simp; omega, by simp; omega, by simp; omega, by simp; omega, by simp; omega, by simp; omega, by simp; omega, by simp⟩, ⟨by simp [go_sem, *], by simp [go_sem, *], by simp [go_sem, *], by simp [go_sem, *], by simp [go_sem, *], by simp [go_sem, *], by simp [go_sem, *], by simp [go_sem, *]⟩, B.setCell (by simp) _⟩
            case measure => simp [intOf]; omega
      · by_cases g2 : b.toNat = 45
        · rcases (show k = 0 ∨ k = 1 ∨ k = 2 ∨ k = 3 by have := L.k; simp at this; omega) with rfl | rfl | rfl | rfl
          · have e : AT.step ⟨n0, n1, n2, n3, 0⟩ b = ⟨n0, n1, n2, n3, 0⟩ := step_same (.inl g2) g
            have R := Hidden.mk (run_next hb hr (by rw [e]; simp only [St.get]; omega))
            rw [e] at R
            clear e hr g
            go_wp2_with fail
            go_roundw
            case rel => exact ⟨j + 1, ⟨n0, n1, n2, n3, 0⟩, rfl, by go_num, by omega, R.out, L, ⟨q0, q1, q2, q3, r0, r1, r2, r3⟩, B⟩
            case measure => simp [intOf]; omega
          · have e : AT.step ⟨n0, n1, n2, n3, 1⟩ b = ⟨n0, n1, n2, n3, 1⟩ := step_same (.inl g2) g
            have R := Hidden.mk (run_next hb hr (by rw [e]; simp only [St.get]; omega))
            rw [e] at R
            clear e hr g
            go_wp2_with fail
            go_roundw
            case rel => exact ⟨j + 1, ⟨n0, n1, n2, n3, 1⟩, rfl, by go_num, by omega, R.out, L, ⟨q0, q1, q2, q3, r0, r1, r2, r3⟩, B⟩
            case measure => simp [intOf]; omega
          · have e : AT.step ⟨n0, n1, n2, n3, 2⟩ b = ⟨n0, n1, n2, n3, 2⟩ := step_same (.inl g2) g
            have R := Hidden.mk (run_next hb hr (by rw [e]; simp only [St.get]; omega))
            rw [e] at R
            clear e hr g
            go_wp2_with fail
            go_roundw
            case rel => exact ⟨j + 1, ⟨n0, n1, n2, n3, 2⟩, rfl, by go_num, by omega, R.out, L, ⟨q0, q1, q2, q3, r0, r1, r2, r3⟩, B⟩
            case measure => simp [intOf]; omega
          · have e : AT.step ⟨n0, n1, n2, n3, 3⟩ b = ⟨n0, n1, n2, n3, 3⟩ := step_same (.inl g2) g
            have R := Hidden.mk (run_next hb hr (by rw [e]; simp only [St.get]; omega))
            rw [e] at R
            clear e hr g
            go_wp2_with fail
            go_roundw
            case rel => exact ⟨j + 1, ⟨n0, n1, n2, n3, 3⟩, rfl, by go_num, by omega, R.out, L, ⟨q0, q1, q2, q3, r0, r1, r2, r3⟩, B⟩
            case measure => simp [intOf]; omega
        · by_cases g3 : b.toNat = 115
          · rcases (show k = 0 ∨ k = 1 ∨ k = 2 ∨ k = 3 by have := L.k; simp at this; omega) with rfl | rfl | rfl | rfl
            · have e : AT.step ⟨n0, n1, n2, n3, 0⟩ b = ⟨n0, n1, n2, n3, 0⟩ := step_same (.inr (.inl g3)) g
              have R := Hidden.mk (run_next hb hr (by rw [e]; simp only [St.get]; omega))
              rw [e] at R
              clear e hr g
              go_wp2_with fail
              go_roundw
              case rel => exact ⟨j + 1, ⟨n0, n1, n2, n3, 0⟩, rfl, by go_num, by omega, R.out, L, ⟨q0, q1, q2, q3, r0, r1, r2, r3⟩, B⟩
              case measure => simp [intOf]; omega
            · have e : AT.step ⟨n0, n1, n2, n3, 1⟩ b = ⟨n0, n1, n2, n3, 1⟩ := step_same (.inr (.inl g3)) g
              have R := Hidden.mk (run_next hb hr (by rw [e]; simp only [St.get]; omega))
              rw [e] at R
              clear e hr g
              go_wp2_with fail
              go_roundw
              case rel => exact ⟨j + 1, ⟨n0, n1, n2, n3, 1⟩, rfl, by go_num, by omega, R.out, L, ⟨q0, q1, q2, q3, r0, r1, r2, r3⟩, B⟩
              case measure => simp [intOf]; omega
            · have e : AT.step ⟨n0, n1, n2, n3, 2⟩ b = ⟨n0, n1, n2, n3, 2⟩ := step_same (.inr (.inl g3)) g
              have R := Hidden.mk (run_next hb hr (by rw [e]; simp only [St.get]; omega))
              rw [e] at R
              clear e hr g
              go_wp2_with fail
              go_roundw
              case rel => exact ⟨j + 1, ⟨n0, n1, n2, n3, 2⟩, rfl, by go_num, by omega, R.out, L, ⟨q0, q1, q2, q3, r0, r1, r2, r3⟩, B⟩
              case measure => simp [intOf]; omega
            · have e : AT.step ⟨n0, n1, n2, n3, 3⟩ b = ⟨n0, n1, n2, n3, 3⟩ := step_same (.inr (.inl g3)) g
              have R := Hidden.mk (run_next hb hr (by rw [e]; simp only [St.get]; omega))
              rw [e] at R
              clear e hr g
              go_wp2_with fail
              go_roundw
              case rel => exact ⟨j + 1, ⟨n0, n1, n2, n3, 3⟩, rfl, by go_num, by omega, R.out, L, ⟨q0, q1, q2, q3, r0, r1, r2, r3⟩, B⟩
              case measure => simp [intOf]; omega
          · have z2 : ((b.toNat : Int) != 45) = true := by simp; omega
            have z3 : ((b.toNat : Int) != 115) = true := by simp; omega
            rcases (show b.toNat < 48 ∨ 57 < b.toNat by omega) with gg | gg
            · rcases (show k = 0 ∨ k = 1 ∨ k = 2 ∨ k = 3 by have := L.k; simp at this; omega) with rfl | rfl | rfl | rfl
              · have e : AT.step ⟨n0, n1, n2, n3, 0⟩ b = ⟨n0, n1, n2, n3, 1⟩ := step_on g g2 g3 (by simp)
                have R := Hidden.mk (run_next hb hr (by rw [e]; simp only [St.get]; omega))
                rw [e] at R
                clear e hr g
                go_wp2_with fail
                go_roundw
                case rel => exact ⟨j + 1, ⟨n0, n1, n2, n3, 1⟩, by go_num, by go_num, by omega, R.out, ⟨p0, p1, p2, p3, p4, p5, p6, p7, by simp⟩, ⟨q0, q1, q2, q3, r0, r1, r2, r3⟩, B⟩
                case measure => simp [intOf]; omega
              · have e : AT.step ⟨n0, n1, n2, n3, 1⟩ b = ⟨n0, n1, n2, n3, 2⟩ := step_on g g2 g3 (by simp)
                have R := Hidden.mk (run_next hb hr (by rw [e]; simp only [St.get]; omega))
                rw [e] at R
                clear e hr g
                go_wp2_with fail
                go_roundw
                case rel => exact ⟨j + 1, ⟨n0, n1, n2, n3, 2⟩, by go_num, by go_num, by omega, R.out, ⟨p0, p1, p2, p3, p4, p5, p6, p7, by simp⟩, ⟨q0, q1, q2, q3, r0, r1, r2, r3⟩, B⟩
                case measure => simp [intOf]; omega
              · have e : AT.step ⟨n0, n1, n2, n3, 2⟩ b = ⟨n0, n1, n2, n3, 3⟩ := step_on g g2 g3 (by simp)
                have R := Hidden.mk (run_next hb hr (by rw [e]; simp only [St.get]; omega))
                rw [e] at R
                clear e hr g
                go_wp2_with fail
                go_roundw
                case rel => exact ⟨j + 1, ⟨n0, n1, n2, n3, 3⟩, by go_num, by go_num, by omega, R.out, ⟨p0, p1, p2, p3, p4, p5, p6, p7, by simp⟩, ⟨q0, q1, q2, q3, r0, r1, r2, r3⟩, B⟩
                case measure => simp [intOf]; omega
              · have e : AT.step ⟨n0, n1, n2, n3, 3⟩ b = ⟨n0, n1, n2, n3, 3⟩ := step_same (.inr (.inr rfl)) g
                have R := Hidden.mk (run_next hb hr (by rw [e]; simp only [St.get]; omega))
                rw [e] at R
                clear e hr g
                go_wp2_with fail
                go_roundw
                case rel => exact ⟨j + 1, ⟨n0, n1, n2, n3, 3⟩, rfl, by go_num, by omega, R.out, L, ⟨q0, q1, q2, q3, r0, r1, r2, r3⟩, B⟩
                case measure => simp [intOf]; omega
            · rcases (show k = 0 ∨ k = 1 ∨ k = 2 ∨ k = 3 by have := L.k; simp at this; omega) with rfl | rfl | rfl | rfl
              · have e : AT.step ⟨n0, n1, n2, n3, 0⟩ b = ⟨n0, n1, n2, n3, 1⟩ := step_on g g2 g3 (by simp)
                have R := Hidden.mk (run_next hb hr (by rw [e]; simp only [St.get]; omega))
                rw [e] at R
                clear e hr g
                go_wp2_with fail
                go_roundw
                case rel => exact ⟨j + 1, ⟨n0, n1, n2, n3, 1⟩, by go_num, by go_num, by omega, R.out, ⟨p0, p1, p2, p3, p4, p5, p6, p7, by simp⟩, ⟨q0, q1, q2, q3, r0, r1, r2, r3⟩, B⟩
                case measure => simp [intOf]; omega
              · have e : AT.step ⟨n0, n1, n2, n3, 1⟩ b = ⟨n0, n1, n2, n3, 2⟩ := step_on g g2 g3 (by simp)
                have R := Hidden.mk (run_next hb hr (by rw [e]; simp only [St.get]; omega))
                rw [e] at R
                clear e hr g
                go_wp2_with fail
                go_roundw
                case rel => exact ⟨j + 1, ⟨n0, n1, n2, n3, 2⟩, by go_num, by go_num, by omega, R.out, ⟨p0, p1, p2, p3, p4, p5, p6, p7, by simp⟩, ⟨q0, q1, q2, q3, r0, r1, r2, r3⟩, B⟩
                case measure => simp [intOf]; omega
              · have e : AT.step ⟨n0, n1, n2, n3, 2⟩ b = ⟨n0, n1, n2, n3, 3⟩ := step_on g g2 g3 (by simp)
                have R := Hidden.mk (run_next hb hr (by rw [e]; simp only [St.get]; omega))
                rw [e] at R
                clear e hr g
                go_wp2_with fail
                go_roundw
                case rel => exact ⟨j + 1, ⟨n0, n1, n2, n3, 3⟩, by go_num, by go_num, by omega, R.out, ⟨p0, p1, p2, p3, p4, p5, p6, p7, by simp⟩, ⟨q0, q1, q2, q3, r0, r1, r2, r3⟩, B⟩
                case measure => simp [intOf]; omega
              · have e : AT.step ⟨n0, n1, n2, n3, 3⟩ b = ⟨n0, n1, n2, n3, 3⟩ := step_same (.inr (.inr rfl)) g
                have R := Hidden.mk (run_next hb hr (by rw [e]; simp only [St.get]; omega))
                rw [e] at R
                clear e hr g
                go_wp2_with fail
                go_roundw
                case rel => exact ⟨j + 1, ⟨n0, n1, n2, n3, 3⟩, rfl, by go_num, by omega, R.out, L, ⟨q0, q1, q2, q3, r0, r1, r2, r3⟩, B⟩
                case measure => simp [intOf]; omega
    · have ej : j = t.length := by omega
      subst ej
      rw [List.take_length] at hr
      have k0 := cell_regrown q0
      have k1 := cell_regrown q1
      have k2 := cell_regrown q2
      have k3 := cell_regrown q3
      cases t with
      | nil =>
        obtain ⟨lg, hlg⟩ : ∃ lg, lg = neg [] := ⟨_, rfl⟩
        clear hlg lg
        have q : ∀ d' os, Calls Try.prog 20 #[angV false n0 n1 n2 n3] (grow (redrawn wr d') os) fun e w'' => e = .returned (.tuple #[.int .i64 (ofV false n0 n1 n2 n3), .bool (ofB false n0 n1 n2 n3)]) ∧ ∃ p : Regrown, w'' = grow (redrawn wr p.d) p.os := fun d' os => Calls.regrown_of (sOf_any _ _ _ _ _ _)
        go_wp2_with fail
        refine KS.region (by kernel_rfl) (by kernel_rfl) ?_
        iterate 20 (refine KS.step (fun K hK => ?_); go_simp; refine hK _ ?_; clear hK K)
        refine KS.step (fun K hK => ?_)
        go_simp
        apply Exists.intro
        refine ⟨fun _ => ?_, hK _ ?_⟩
        exact q _ _
        clear hK K
        iterate 5 (refine KS.step (fun K hK => ?_); go_simp; refine hK _ ?_; clear hK K)
        refine KS.nil ?_
        rintro _ ⟨p', rfl⟩
        have B9 := below_regrown wr p'.d p'.os
        generalize grow (redrawn wr p'.d) p'.os = w9 at *
        replace B := below1 B B9
        clear q B9 k0 k1 k2 k3 q0 q1 q2 q3 r0 r1 r2 r3
        cases ho : ofB false n0 n1 n2 n3
        · have R := Hidden.mk (read_no (read_of1 hr (ho)))
          go_wp2
          go_ret2
          exact ⟨R.out, B⟩
        · have ht := (parts_of ho).1
          have X := sText_any (ofV false n0 n1 n2 n3)
          have e : textV (ofV false n0 n1 n2 n3) = text (ofV false n0 n1 n2 n3) := by simp [textV, ht]
          rw [e] at X
          clear e
          by_cases c : text (ofV false n0 n1 n2 n3) = []
          · have z := text_len (ofV false n0 n1 n2 n3)
            rw [c] at z
            simp at z
          · have R := Hidden.mk (read_no (read_of3 hr (c)))
            have c' : (text (ofV false n0 n1 n2 n3) == []) = false := beq_false_of_ne c
            generalize ofV false n0 n1 n2 n3 = a at *
            clear c ho ht hr
            go_wp2_with fail
            refine (X _).mono ?_
            rintro e w10 ⟨rfl, B10⟩
            replace B := below1 B B10
            go_wp2
            go_ret2
            exact ⟨R.out, B⟩
      | cons b r =>
        obtain ⟨lg, hlg⟩ : ∃ lg, Hidden (lg = neg (b :: r)) := ⟨_, ⟨rfl⟩⟩
        have hq : ∀ hp : 0 < (ByteArray.mk (b :: r).toArray).size, ((((ByteArray.mk (b :: r).toArray)[0]'hp).toNat : Int) == 45) = lg := fun hp => hlg.out ▸ head_neg b r
        have q : ∀ d' os, Calls Try.prog 20 #[angV lg n0 n1 n2 n3] (grow (redrawn wr d') os) fun e w'' => e = .returned (.tuple #[.int .i64 (ofV lg n0 n1 n2 n3), .bool (ofB lg n0 n1 n2 n3)]) ∧ ∃ p : Regrown, w'' = grow (redrawn wr p.d) p.os := fun d' os => Calls.regrown_of (sOf_any _ _ _ _ _ _)
        go_wp2_with fail
        refine KS.region (by kernel_rfl) (by kernel_rfl) ?_
        iterate 20 (refine KS.step (fun K hK => ?_); go_simp; refine hK _ ?_; clear hK K)
        refine KS.step (fun K hK => ?_)
        go_simp
        apply Exists.intro
        refine ⟨fun _ => ?_, hK _ ?_⟩
        exact q _ _
        clear hK K
        iterate 5 (refine KS.step (fun K hK => ?_); go_simp; refine hK _ ?_; clear hK K)
        refine KS.nil ?_
        rintro _ ⟨p', rfl⟩
        have B9 := below_regrown wr p'.d p'.os
        generalize grow (redrawn wr p'.d) p'.os = w9 at *
        replace B := below1 B B9
        clear q B9 k0 k1 k2 k3 q0 q1 q2 q3 r0 r1 r2 r3
        cases ho : ofB lg n0 n1 n2 n3
        · have R := Hidden.mk (read_no (read_of1 hr (hlg.out ▸ ho)))
          go_wp2
          go_ret2
          exact ⟨R.out, B⟩
        · have ht := (parts_of ho).1
          have X := sText_any (ofV lg n0 n1 n2 n3)
          have e : textV (ofV lg n0 n1 n2 n3) = text (ofV lg n0 n1 n2 n3) := by simp [textV, ht]
          rw [e] at X
          clear e
          by_cases c : text (ofV lg n0 n1 n2 n3) = (b :: r)
          · have R := Hidden.mk (read_of2 hr (hlg.out ▸ ho) (hlg.out ▸ c) hl)
            rw [c] at X
            rw [← hlg.out] at R
            generalize ofV lg n0 n1 n2 n3 = a at *
            clear c ho ht hr
            go_wp2_with fail
            refine (X _).mono ?_
            rintro e w10 ⟨rfl, B10⟩
            replace B := below1 B B10
            go_wp2
            go_ret2
            exact ⟨R.out, B⟩
          · have R := Hidden.mk (read_no (read_of3 hr (hlg.out ▸ c)))
            have c' : (text (ofV lg n0 n1 n2 n3) == b :: r) = false := beq_false_of_ne c
            generalize ofV lg n0 n1 n2 n3 = a at *
            clear c ho ht hr
            go_wp2_with fail
            refine (X _).mono ?_
            rintro e w10 ⟨rfl, B10⟩
            replace B := below1 B B10
            go_wp2
            go_ret2
            exact ⟨R.out, B⟩
theorem sRead_any (t : List UInt8) (w : World) :
    Calls Try.prog 8 #[.string ⟨t.toArray⟩] w fun e w' => e = .returned (.tuple #[.int .i64 (readV t), .bool (readB t)]) ∧ Below w.heap.size w w' := by
  by_cases hl : t.length ≤ 20
  · exact sRead_loop t w hl
  · have R := Hidden.mk (read_no (show readO t = none by unfold readO; rw [if_pos (by omega)]))
    go_enter Try.func8, Try.ntmps8
    go_wp2
    go_ret2
    exact ⟨R.out, below_new _ _⟩
end AW
end Go.Proofs.Ytlhkedollclfiag
