/-
  The draws of the laws of places: three places.
-/
import Derived.Test.YtfdkpcejjcifganDoorDrawFan
import Derived.Test.YtfdkpcejjcifganDoorDrawSpot2
import Derived.Test.YtfdkpcejjcifganDoorLoose4
import Derived.RegionTactic
namespace Go.Proofs.YtfdkpcejjcifganDoor
open Go.RowKit Go.Sort
set_option linter.unusedVariables false
namespace DS
open DK DW DF SK
def isSpot (u : Value) : Prop := ∃ a l : Int, u = SK.spV a l ∧ -32400010 ≤ a ∧ a ≤ 32400010 ∧ -10 ≤ l ∧ l ≤ 129600010
/-- A world in which the reader has gone on, the two places being as they were; the answers' places lie from 'n0' on. -/
structure Wn (n0 : Nat) (w0 : World) (k c : Nat) (a l b m : Int) (f : Nat) where
  w : World
  rd : ∃ p, Rd w k p ∧ p + 200 * f ≤ 810000000
  bw : Below n0 w0 w
  p : SK.Box w c a l
  q : SK.Box w (c + 1) b m
  r : ∃ x x', SK.Box w n0 x x'
  y : ∃ x x', SK.Box w (n0 + 1) x x'
  v : ∃ x x', SK.Box w (n0 + 1 + 1) x x'
abbrev Cn (n0 : Nat) (w0 : World) (k c : Nat) (a l b m : Int) : Nat → World → Prop := fun f w' => ∃ q : Wn n0 w0 k c a l b m f, w' = q.w
theorem Cn.mono {n0 : Nat} {w0 : World} {k c : Nat} {a l b m : Int} : ∀ f w, Cn n0 w0 k c a l b m (f + 1) w → Cn n0 w0 k c a l b m f w := by
  rintro f w ⟨q, rfl⟩
  obtain ⟨p, h1, h2⟩ := q.rd
  exact ⟨⟨q.w, ⟨p, h1, by omega⟩, q.bw, q.p, q.q, q.r, q.y, q.v⟩, rfl⟩
theorem Cn.start {n0 : Nat} {w0 w : World} {k c p : Nat} {a l b m : Int} (n : Nat) (R : Rd w k p) (h : p + 200 * n ≤ 810000000) (B : Below n0 w0 w) (P : SK.Box w c a l) (Q : SK.Box w (c + 1) b m) (X : SK.Box w n0 0 0) (Y : SK.Box w (n0 + 1) 0 0) (V : SK.Box w (n0 + 1 + 1) 0 0) :
    Cn n0 w0 k c a l b m n { w with drawn := w.drawn + 1 } :=
  ⟨⟨w.drew, ⟨p, R.drew, h⟩, B.drew, ⟨P.c0, P.c1, P.f0, P.f1⟩, ⟨Q.c0, Q.c1, Q.f0, Q.f1⟩, ⟨0, 0, ⟨X.c0, X.c1, X.f0, X.f1⟩⟩, ⟨0, 0, ⟨Y.c0, Y.c1, Y.f0, Y.f1⟩⟩, ⟨0, 0, ⟨V.c0, V.c1, V.f0, V.f1⟩⟩⟩, rfl⟩
def ndN (n0 : Nat) (a l : Int) : Nat → Option (Act → Value → World → Prop) := fun i =>
  if i = 1 then some (fun _ u _ => isSpot u) else if i = 4 then some (fun t _ w => ∃ g n : Int, t.tmps.getD 16 undef = SK.spV g n ∧ SK.Box w n0 g n) else if i = 5 then some (fun _ _ w => SK.Box w (n0 + 1) a l) else none
theorem putD {a : Act} {dst : Option Tmp} {v : Value} {s : Nat} (h : dst ≠ some s) : (a.put dst v).tmps.getD s undef = a.tmps.getD s undef := by
  cases dst with
  | none => rfl
  | some d =>
    have hne : d ≠ s := fun e => h (by rw [e])
    simp [Act.put, Array.getElem?_setIfInBounds_ne hne]
theorem ndN_none {n0 x : Nat} {a l : Int} (h : ndN n0 a l x = none) : x ≠ 1 ∧ x ≠ 4 ∧ x ≠ 5 := by
  unfold ndN at h
  split at h
  · cases h
  · split at h
    · cases h
    · split at h
      · cases h
      · rename_i h1 h2 h3; exact ⟨h1, h2, h3⟩
theorem ndN_local {ops : Array Oper} {n0 : Nat} {a l : Int} (h : ((List.range ops.size).all fun x => x == 1 || (x == 4 || (x == 5 || ((ops[x]?).any fun o => o.dst != some 16)))) = true) : LZ.Local ops (ndN n0 a l) := by
  intro k Φ oj hn hj t dst v hd
  obtain ⟨_, x, ox, hx, hnx, rfl⟩ := hd
  have hn' := ndN_none hnx
  have hlt : x < ops.size := (Array.getElem?_eq_some_iff.1 hx).1
  have hz := List.all_eq_true.1 h x (List.mem_range.2 hlt)
  rw [hx] at hz
  simp only [Option.any_some, Bool.or_eq_true, beq_iff_eq, bne_iff_ne, ne_eq] at hz
  have hz' : ¬ ox.dst = some 16 := by
    rcases hz with e | e | e | e
    · exact absurd e hn'.1
    · exact absurd e hn'.2.1
    · exact absurd e hn'.2.2
    · exact e
  unfold ndN at hn
  split at hn
  · cases hn; rfl
  · split at hn
    · cases hn
      funext u w
      simp only [putD hz']
    · split at hn
      · cases hn; rfl
      · cases hn
theorem spot_loose {n0 : Nat} {w0 : World} {k c f : Nat} {a l b m : Int} (hc : c ≠ k) (hc1 : c + 1 ≠ k) (hr : n0 ≠ k) (hy : n0 + 1 ≠ k) (hv : n0 + 1 + 1 ≠ k) (hn : n0 ≤ k) (h0 : n0 ≤ w0.heap.size) (q : Wn n0 w0 k c a l b m (f + 1)) :
    Calls Tryd.prog 11 #[.pointer (some ⟨k, 0, none⟩)] q.w fun e w'' => ∃ u, e = .returned u ∧ Cn n0 w0 k c a l b m f w'' ∧ isSpot u ∧ LZ.KeepsK [] q.w w'' := by
  obtain ⟨p, R, hp⟩ := q.rd
  refine (l71Spot_any q.w k p (by omega) R).mono ?_
  rintro e w1 ⟨a, l, p1, rfl, a0, a1, l0, l1, q1, R1, T1⟩
  have mv : ∀ {d : Nat}, d ≠ k → (∃ x x', SK.Box q.w d x x') → ∃ x x', SK.Box w1 d x x' := fun hd ⟨x, x', X⟩ => ⟨x, x', boxTch X T1 X.lt hd⟩
  exact ⟨_, rfl, ⟨⟨w1, ⟨_, R1, by omega⟩, q.bw.trans (T1.toBelow (Nat.le_trans h0 q.bw.size) hn), boxTch q.p T1 q.p.lt hc, boxTch q.q T1 q.q.lt hc1, mv hr q.r, mv hy q.y, mv hv q.v⟩, rfl⟩, ⟨a, l, rfl, a0, a1, l0, l1⟩, fun x hx => by cases hx⟩
theorem store_n {n0 : Nat} {w0 : World} {k c f d : Nat} {a l b m x x' : Int} (hk : d ≠ k) (hc : d ≠ c) (hc1 : d ≠ c + 1) (hn : n0 ≤ d) (q : Wn n0 w0 k c a l b m (f + 1)) (X : SK.Box q.w d x x') (g n : Int) :
    Cn n0 w0 k c a l b m f ((q.w.setCell ⟨d, 0, none⟩ (.int .i64 g)).setCell ⟨d, 1, none⟩ (.int .i64 n)) ∧ SK.Box ((q.w.setCell ⟨d, 0, none⟩ (.int .i64 g)).setCell ⟨d, 1, none⟩ (.int .i64 n)) d g n := by
  obtain ⟨p, R, hp⟩ := q.rd
  have X' := X.set g n
  have mv : ∀ {e : Nat}, (∃ x x', SK.Box q.w e x x') → ∃ x x', SK.Box ((q.w.setCell ⟨d, 0, none⟩ (.int .i64 g)).setCell ⟨d, 1, none⟩ (.int .i64 n)) e x x' := fun {e} ⟨x, x', Z⟩ => by
    by_cases h : d = e
    · subst h; exact ⟨g, n, X'⟩
    · exact ⟨x, x', (Z.apart h _).apart h _⟩
  exact ⟨⟨⟨_, ⟨p, rdBox R X hk g n, by omega⟩, (q.bw.setCell (by simpa using hn) _).setCell (by simpa using hn) _, (q.p.apart hc _).apart hc _, (q.q.apart hc1 _).apart hc1 _, mv q.r, mv q.y, mv q.v⟩, rfl⟩, X'⟩
set_option maxHeartbeats 4000000 in
theorem drawSpotNear_any (w : World) (a : Option Addr) (len cap : Nat) (h : Src w a len cap) :
    Calls Tryd.prog 4 #[.slice a len cap] w fun e w' => ∃ g n a l b m : Int, e = .returned (.tuple #[SK.spV g n, SK.spV a l, SK.spV b m]) ∧ -32400010 ≤ g ∧ g ≤ 32400010 ∧ -10 ≤ n ∧ n ≤ 129600010 ∧ -32400010 ≤ a ∧ a ≤ 32400010 ∧ -10 ≤ l ∧ l ≤ 129600010 ∧ -32400010 ≤ b ∧ b ≤ 32400010 ∧ -10 ≤ m ∧ m ≤ 129600010 ∧ Below w.heap.size w w' := by
  have R := ((SK.Box.new w 0 0 24).alloc (.cells #[.int .i64 0, .int .i64 0] 24)).alloc (.cells #[.int .i64 0, .int .i64 0] 24)
  have Y := (SK.Box.new2 w (.cells #[.int .i64 0, .int .i64 0] 24) 0 0 24).alloc (.cells #[.int .i64 0, .int .i64 0] 24)
  have V : SK.Box (((w.alloc (.cells #[.int .i64 0, .int .i64 0] 24)).alloc (.cells #[.int .i64 0, .int .i64 0] 24)).alloc (.cells #[.int .i64 0, .int .i64 0] 24)) (w.heap.size + 1 + 1) 0 0 := by simpa using SK.Box.new ((w.alloc (.cells #[.int .i64 0, .int .i64 0] 24)).alloc (.cells #[.int .i64 0, .int .i64 0] 24)) 0 0 24
  have B0 := SK.below1 (SK.below_new2 w (.cells #[.int .i64 0, .int .i64 0] 24) (.cells #[.int .i64 0, .int .i64 0] 24)) (SK.below_new _ (.cells #[.int .i64 0, .int .i64 0] 24))
  have hk : w.heap.size + 1 + 1 + 1 ≤ (((w.alloc (.cells #[.int .i64 0, .int .i64 0] 24)).alloc (.cells #[.int .i64 0, .int .i64 0] 24)).alloc (.cells #[.int .i64 0, .int .i64 0] 24)).heap.size := by simp
  go_enter Tryd.func4, Tryd.ntmps4
  go_wp2_with fail
  refine (l6Open_any _ _ _ _ (h.kept B0)).mono ?_
  rintro e w1 ⟨rfl, R1, B1⟩
  replace R := R.kept B1
  replace Y := Y.kept B1
  replace V := V.kept B1
  have B := SK.below1 B0 B1
  generalize (((w.alloc (.cells #[.int .i64 0, .int .i64 0] 24)).alloc (.cells #[.int .i64 0, .int .i64 0] 24)).alloc (.cells #[.int .i64 0, .int .i64 0] 24)).heap.size = k at *
  clear B0 B1 h
  go_wp2_with fail
  refine (l71Spots_any _ k _ (by omega) R1).mono ?_
  rintro e w2 ⟨a, l, b, m, p2, rfl, a0, a1, l0, l1, b0, b1, m0, m1, q2, R2, T2⟩
  replace R := boxTch R T2 R.lt (by omega)
  replace Y := boxTch Y T2 Y.lt (by omega)
  replace V := boxTch V T2 V.lt (by omega)
  replace B := B.trans (T2.toBelow B.size (by omega))
  have hk2 := R2.lt
  clear T2 R1
  replace R := (R.alloc (.cells #[.int .i64 a, .int .i64 l] 24)).alloc (.cells #[.int .i64 b, .int .i64 m] 24)
  replace Y := (Y.alloc (.cells #[.int .i64 a, .int .i64 l] 24)).alloc (.cells #[.int .i64 b, .int .i64 m] 24)
  replace V := (V.alloc (.cells #[.int .i64 a, .int .i64 l] 24)).alloc (.cells #[.int .i64 b, .int .i64 m] 24)
  have P := (SK.Box.new w2 a l 24).alloc (.cells #[.int .i64 b, .int .i64 m] 24)
  have Q := SK.Box.new2 w2 (.cells #[.int .i64 a, .int .i64 l] 24) b m 24
  replace B := SK.below1 B (SK.below_new2 w2 (.cells #[.int .i64 a, .int .i64 l] 24) (.cells #[.int .i64 b, .int .i64 m] 24))
  have R3 := (R2.alloc (.cells #[.int .i64 a, .int .i64 l] 24)).alloc (.cells #[.int .i64 b, .int .i64 m] 24)
  clear R2
  go_wp2_with fail
  generalize (w2.alloc (.cells #[.int .i64 a, .int .i64 l] 24)).alloc (.cells #[.int .i64 b, .int .i64 m] 24) = w3 at *
  generalize w2.heap.size = pb at *
  have k0 : ∀ f (q : Wn w.heap.size w k pb a l b m f), q.w.cell? ⟨pb, 0, none⟩ = some (.int .i64 a) := fun f q => q.p.c0
  have k1 : ∀ f (q : Wn w.heap.size w k pb a l b m f), q.w.cell? ⟨pb, 1, none⟩ = some (.int .i64 l) := fun f q => q.p.c1
  have k2 : ∀ f (q : Wn w.heap.size w k pb a l b m f), q.w.cell? ⟨pb + 1, 0, none⟩ = some (.int .i64 b) := fun f q => q.q.c0
  have k3 : ∀ f (q : Wn w.heap.size w k pb a l b m f), q.w.cell? ⟨pb + 1, 1, none⟩ = some (.int .i64 m) := fun f q => q.q.c1
  refine LZ.regionT (Cn w.heap.size w k pb a l b m) (ndN w.heap.size a l) 6 (.det 0 (.det 2 (.det 3 (.one 1 (.one 4 (.one 5 .nil)))))) (ndN_local (by kernel_rfl)) (by kernel_rfl) (by kernel_rfl) Cn.mono (Cn.start 6 R3 (by omega) B P Q R Y V) ?_
  iterate 3 (refine LZ.stepDT rfl rfl (fun N hN => ?_); go_simp; apply Exists.intro; refine ⟨fun _ _ _ => ?_, hN _ _ ?_⟩; exact And.intro rfl rfl; clear hN N)
  refine LZ.stepOne ?_
  refine LZ.opN rfl rfl (fun N hN => ?_)
  go_simp
  refine ⟨fun f q _ => And.intro rfl (spot_loose (by omega) (by omega) (by omega) (by omega) (by omega) (by omega) (Nat.le_refl _) q), ?_⟩
  rintro u ⟨g, n, rfl, g0, g1, n0, n1⟩
  refine hN _ _ ?_
  clear hN N
  refine LZ.stepOne ?_
  refine LZ.opN rfl rfl (fun N hN => ?_)
  go_simp
  refine ⟨fun f q _ => ?_, fun _ _ => hN _ _ ?_⟩
  · obtain ⟨x, x', X⟩ := q.r
    have X' := X
    obtain ⟨e0, e1, e2, e3⟩ := X'
    go_simp
    have S := store_n (by omega) (by omega) (by omega) (Nat.le_refl _) q X g n
    exact ⟨S.1, ⟨g, n, ⟨rfl, rfl⟩, S.2⟩, fun x hx => by simp at hx; subst hx; exact fun h => h⟩
  clear hN N
  refine LZ.stepOne ?_
  refine LZ.opN rfl rfl (fun N hN => ?_)
  go_simp
  refine ⟨fun f q _ => ?_, fun _ _ => hN _ _ ?_⟩
  · obtain ⟨x, x', X⟩ := q.y
    have X' := X
    obtain ⟨e0, e1, e2, e3⟩ := X'
    go_simp
    have S := store_n (by omega) (by omega) (by omega) (by omega) q X a l
    refine ⟨S.1, S.2, fun x hx => ?_⟩
    simp only [List.mem_cons, List.not_mem_nil, or_false] at hx
    rcases hx with rfl | rfl
    · rintro ⟨g', n', he, Z⟩
      exact ⟨g', n', he, (Z.apart (by omega) _).apart (by omega) _⟩
    · exact fun h => h
  clear hN N
  refine LZ.lexEndT ?_
  rintro w6 ⟨q, rfl⟩ kn
  have Y6 : SK.Box q.w (w.heap.size + 1) a l := (kn _ (List.mem_cons_self ..)).2
  obtain ⟨g', n', ⟨rfl, rfl⟩, R6⟩ := (kn _ (List.mem_cons_of_mem _ (List.mem_cons_self ..))).2
  obtain ⟨x, x', V6⟩ := q.v
  have B6 := q.bw
  clear kn k0 k1 k2 k3
  generalize q.w = w6 at *
  clear R Y V P Q R3 B
  simp only [List.drop]
  have ⟨r0, r1, r2, r3⟩ := R6
  have ⟨y0, y1, y2, y3⟩ := Y6
  have ⟨v0, v1, v2, v3⟩ := V6
  clear R6 Y6 V6
  go_wp2
  refine bodyPost_ret (v := .tuple #[.agg #[.int .i64 g, .int .i64 n], .agg #[.int .i64 a, .int .i64 l], .agg #[.int .i64 b, .int .i64 m]]) (by simp [results, Tryd.results4, go_sem, *]) rfl ⟨_, _, _, _, _, _, rfl, g0, g1, n0, n1, a0, a1, l0, l1, b0, b1, m0, m1, ?_⟩
  exact SK.below_set2 B6 (by omega) _ _
end DS
end Go.Proofs.YtfdkpcejjcifganDoor
