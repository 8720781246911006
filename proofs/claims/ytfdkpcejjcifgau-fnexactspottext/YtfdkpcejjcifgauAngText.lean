/-
  The texts of angles: written, read, and read back. No Go text in sight.
-/
import Derived.Test.YtfdkpcejjcifgauAngMath
namespace Go.Proofs.Ytfdkpcejjcifgau
namespace AT
open AM

/-- A figure. -/
def fig (n : Int) : UInt8 := UInt8.ofNat (48 + n).toNat
theorem fig_nat {n : Int} (h0 : 0 ≤ n) (h1 : n ≤ 9) : ((fig n).toNat : Int) = 48 + n := by
  unfold fig
  rw [UInt8.toNat_ofNat']
  omega
theorem fig_inj {n m : Int} (h0 : 0 ≤ n) (h1 : n ≤ 9) (g0 : 0 ≤ m) (g1 : m ≤ 9) (e : fig n = fig m) : n = m := by
  have a := fig_nat h0 h1
  have b := fig_nat g0 g1
  rw [e] at a
  omega
def two (n : Int) : List UInt8 := [fig (n / 10), fig (n % 10)]
/-- A number below 1000 in decimals. -/
def dec (n : Int) : List UInt8 := if n < 10 then [fig n] else if n < 100 then [fig (n / 10), fig (n % 10)] else [fig (n / 100), fig (n / 10 % 10), fig (n % 10)]
def body (a : Int) : List UInt8 := dec (deg a) ++ 100 :: (two (mi a) ++ 109 :: (two (se a) ++ 46 :: (two (hu a) ++ [115])))
def text (a : Int) : List UInt8 := if a < 0 then 45 :: body a else body a
/-- What AngText answers. -/
def textV (a : Int) : List UInt8 := if inT a then text a else []

/-! ### read -/
structure St where
  n0 : Int
  n1 : Int
  n2 : Int
  n3 : Int
  k : Nat
def St.get (s : St) : Int := match s.k with | 0 => s.n0 | 1 => s.n1 | 2 => s.n2 | _ => s.n3
def St.put (s : St) (x : Int) : St := match s.k with | 0 => { s with n0 := x } | 1 => { s with n1 := x } | 2 => { s with n2 := x } | _ => { s with n3 := x }
def step (s : St) (b : UInt8) : St :=
  if 48 ≤ b.toNat ∧ b.toNat ≤ 57 then s.put (s.get * 10 + ((b.toNat : Int) - 48)) else if b.toNat ≠ 45 ∧ b.toNat ≠ 115 ∧ s.k < 3 then { s with k := s.k + 1 } else s
def run : List UInt8 → St → Option St
  | [], s => some s
  | b :: r, s => if 1000 < (step s b).get then none else run r (step s b)
def init : St := ⟨0, 0, 0, 0, 0⟩
def neg (t : List UInt8) : Bool := t.head? == some 45
/-- What AngRead answers: the parts that are read, if they make an angle, and its text is this. -/
def readO (t : List UInt8) : Option Int :=
  if 20 < t.length then none else
  match run t init with
  | none => none
  | some s => if ofB (neg t) s.n0 s.n1 s.n2 s.n3 = true ∧ text (ofV (neg t) s.n0 s.n1 s.n2 s.n3) = t then some (ofV (neg t) s.n0 s.n1 s.n2 s.n3) else none
theorem run_append (x y : List UInt8) (s : St) : run (x ++ y) s = (run x s).bind (run y) := by
  induction x generalizing s with
  | nil => rfl
  | cons b r ih =>
    simp only [List.cons_append, run]
    split
    · rfl
    · exact ih _
theorem step_fig {n : Int} (h0 : 0 ≤ n) (h1 : n ≤ 9) (s : St) : step s (fig n) = s.put (s.get * 10 + n) := by
  have a := fig_nat h0 h1
  unfold step
  rw [if_pos (by omega)]
  congr 1
  omega
theorem run_fig {n : Int} (h0 : 0 ≤ n) (h1 : n ≤ 9) (s : St) (r : List UInt8) (hk : (s.put (s.get * 10 + n)).get ≤ 1000) : run (fig n :: r) s = run r (s.put (s.get * 10 + n)) := by
  have e := step_fig h0 h1 s
  simp only [run, e]
  rw [if_neg (by omega)]
theorem run_dec {d : Int} (h0 : 0 ≤ d) (h1 : d ≤ 360) (r : List UInt8) : run (dec d ++ r) init = run r ⟨d, 0, 0, 0, 0⟩ := by
  unfold dec
  split
  · have := run_fig (n := d) h0 (by omega) init r (by simp only [init, St.put, St.get]; omega)
    simp only [List.cons_append, List.nil_append]
    rw [this]
    simp [init, St.put, St.get]
  · split
    · simp only [List.cons_append, List.nil_append]
      rw [run_fig (n := d / 10) (by omega) (by omega) _ _ (by simp only [init, St.put, St.get]; omega), run_fig (n := d % 10) (by omega) (by omega) _ _ (by simp only [init, St.put, St.get]; omega)]
      simp only [init, St.put, St.get]
      congr 2
      omega
    · simp only [List.cons_append, List.nil_append]
      rw [run_fig (n := d / 100) (by omega) (by omega) _ _ (by simp only [init, St.put, St.get]; omega), run_fig (n := d / 10 % 10) (by omega) (by omega) _ _ (by simp only [init, St.put, St.get]; omega), run_fig (n := d % 10) (by omega) (by omega) _ _ (by simp only [init, St.put, St.get]; omega)]
      simp only [init, St.put, St.get]
      congr 2
      omega
theorem run_body {a : Int} (h : inT a = true) : run (body a) init = some ⟨deg a, mi a, se a, hu a, 3⟩ := by
  obtain ⟨⟨d0, d1⟩, ⟨m0, m1⟩, ⟨s0, s1⟩, h0, h1⟩ := parts_in h
  unfold body
  rw [run_dec d0 d1]
  generalize deg a = d at *
  generalize mi a = m at *
  generalize se a = s at *
  generalize hu a = u at *
  have k1 : run (100 :: (two m ++ 109 :: (two s ++ 46 :: (two u ++ [115])))) ⟨d, 0, 0, 0, 0⟩ = run (two m ++ 109 :: (two s ++ 46 :: (two u ++ [115]))) ⟨d, 0, 0, 0, 1⟩ := by
    simp [run, step, St.get]
  rw [k1]
  unfold two
  simp only [List.cons_append, List.nil_append]
  rw [run_fig (n := m / 10) (by omega) (by omega) _ _ (by simp only [St.put, St.get]; omega), run_fig (n := m % 10) (by omega) (by omega) _ _ (by simp only [St.put, St.get]; omega)]
  simp only [St.put, St.get]
  have k2 : ∀ x r, run (109 :: r) ⟨d, x, 0, 0, 1⟩ = run r ⟨d, x, 0, 0, 2⟩ := fun x r => by simp [run, step, St.get]
  rw [k2, run_fig (n := s / 10) (by omega) (by omega) _ _ (by simp only [St.put, St.get]; omega), run_fig (n := s % 10) (by omega) (by omega) _ _ (by simp only [St.put, St.get]; omega)]
  simp only [St.put, St.get]
  have k3 : ∀ x y r, run (46 :: r) ⟨d, x, y, 0, 2⟩ = run r ⟨d, x, y, 0, 3⟩ := fun x y r => by simp [run, step, St.get]
  rw [k3, run_fig (n := u / 10) (by omega) (by omega) _ _ (by simp only [St.put, St.get]; omega), run_fig (n := u % 10) (by omega) (by omega) _ _ (by simp only [St.put, St.get]; omega)]
  simp only [St.put, St.get]
  have k4 : ∀ x y z, z ≤ 1000 → run [115] ⟨d, x, y, z, 3⟩ = some ⟨d, x, y, z, 3⟩ := fun x y z hz => by
    simp [run, step, St.get]
    omega
  rw [k4 _ _ _ (by omega)]
  congr 2 <;> omega
theorem dec_head {d : Int} (h0 : 0 ≤ d) (h1 : d ≤ 360) (r : List UInt8) : ∃ n : Int, 0 ≤ n ∧ n ≤ 9 ∧ (dec d ++ r).head? = some (fig n) := by
  unfold dec
  split
  · exact ⟨d, by omega, by omega, rfl⟩
  · split
    · exact ⟨d / 10, by omega, by omega, rfl⟩
    · exact ⟨d / 100, by omega, by omega, rfl⟩
theorem fig_ne {n : Int} (h0 : 0 ≤ n) (h1 : n ≤ 9) : fig n ≠ 45 := by
  intro e
  have := fig_nat h0 h1
  rw [e] at this
  have k : (45 : UInt8).toNat = 45 := rfl
  omega
theorem neg_text {a : Int} (h : inT a = true) : neg (text a) = decide (a < 0) := by
  obtain ⟨⟨d0, d1⟩, _⟩ := parts_in h
  unfold neg text
  by_cases c : a < 0
  · simp [c]
  · obtain ⟨n, n0, n1, e⟩ := dec_head d0 d1 (100 :: (two (mi a) ++ 109 :: (two (se a) ++ 46 :: (two (hu a) ++ [115]))))
    have e' : (body a).head? = some (fig n) := e
    simp [c, e', fig_ne n0 n1]
theorem dec_len {d : Int} : 1 ≤ (dec d).length ∧ (dec d).length ≤ 3 := by
  unfold dec
  split
  · simp
  · split <;> simp
theorem body_len (a : Int) : 11 ≤ (body a).length ∧ (body a).length ≤ 13 := by
  have := @dec_len (deg a)
  unfold body two
  simp
  omega
theorem text_len (a : Int) : 11 ≤ (text a).length ∧ (text a).length ≤ 14 := by
  have := body_len a
  unfold text
  split
  · simp; omega
  · omega
theorem run_text {a : Int} (h : inT a = true) : run (text a) init = some ⟨deg a, mi a, se a, hu a, 3⟩ := by
  unfold text
  by_cases c : a < 0
  · rw [if_pos c]
    have k : ∀ r, run (45 :: r) init = run r init := fun r => by simp [run, step, St.get, init]
    rw [k]
    exact run_body h
  · rw [if_neg c]
    exact run_body h
/-- An angle is read back from its text. -/
theorem read_text {a : Int} (h : inT a = true) : readO (text a) = some a := by
  have l := text_len a
  obtain ⟨o1, o2⟩ := of_parts h
  unfold readO
  rw [if_neg (by omega), run_text h, neg_text h]
  simp only [o1, o2, and_self, if_true]
/-- What is read has this text. -/
theorem read_some {t : List UInt8} {a : Int} (h : readO t = some a) : inT a = true ∧ text a = t := by
  unfold readO at h
  split at h
  · cases h
  · split at h
    · cases h
    · split at h
      · rename_i s _ c
        cases h
        exact ⟨(parts_of c.1).1, c.2⟩
      · cases h
theorem text_inj {a b : Int} (h : inT a = true) (g : inT b = true) (e : text a = text b) : a = b := by
  have x := read_text h
  rw [e, read_text g] at x
  exact (Option.some.inj x).symm
/-- Below 0 there is a sign ahead of the text. -/
theorem body_neg (a : Int) : body (-a) = body a := by
  have : ab (-a) = ab a := by unfold ab; split <;> split <;> omega
  unfold body deg mi se hu
  rw [this]
theorem text_neg {a : Int} (h : a < 0) : text a = 45 :: text (-a) := by
  unfold text
  rw [if_pos h, if_neg (by omega), body_neg]
/-- Nothing else is read. -/
theorem read_none {t : List UInt8} (h : ∀ a, inT a = true → text a ≠ t) : readO t = none := by
  cases e : readO t with
  | none => rfl
  | some a => exact absurd (read_some e).2 (h a (read_some e).1)

end AT
end Go.Proofs.Ytfdkpcejjcifgau
