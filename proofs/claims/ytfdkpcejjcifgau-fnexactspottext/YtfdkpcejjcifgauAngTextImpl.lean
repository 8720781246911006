/-
  The text of an angle, by the program: what its AngText answers.
-/
import Derived.Test.YtfdkpcejjcifgauRows
import Derived.Test.YtfdkpcejjcifgauLooseMath
import Derived.Test.YtfdkpcejjcifgauAngImpl
import Derived.Test.YtfdkpcejjcifgauAngFig
import Derived.Laws.Cover4
import Derived.Maps.AppendAt
import Derived.WalkKit
import Derived.Below
import Derived.LoopN
namespace Go.Proofs.Ytfdkpcejjcifgau
open Go.RowKit Go.Joins
set_option linter.unusedVariables false
namespace AW
open AM AT
theorem enc1 {b : UInt8} (h : b.toNat < 128) : Utf8.encode (b.toNat : Int) = ⟨#[b]⟩ := by
  have e1 : Utf8.valid (b.toNat : Int) = true := by simp [Utf8.valid]; omega
  unfold Utf8.encode
  simp only [e1, if_true, Int.toNat_natCast]
  rw [if_pos (by omega)]
  simp
theorem runes_low : ∀ (l : List UInt8) (s : ByteArray), (∀ b ∈ l, b.toNat < 128) → (l.map fun b => (b.toNat : Int)).foldl (fun r n => r ++ Utf8.encode n) s = s ++ ⟨l.toArray⟩ := by
  intro l
  induction l with
  | nil =>
    intro s _
    obtain ⟨⟨s⟩⟩ := s
    exact (cat s []).symm ▸ by simp
  | cons b r ih =>
    intro s h
    rw [List.map_cons, List.foldl_cons, ih _ (fun x hx => h x (List.mem_cons_of_mem _ hx)), enc1 (h b (List.mem_cons_self ..))]
    obtain ⟨⟨s⟩⟩ := s
    have e1 := cat s [b]
    have e2 := cat (s ++ [b]) r
    have e3 := cat s (b :: r)
    rw [e1, e2, e3]
    simp
/-- Runes of ASCII alone, as a text. -/
theorem str_runes {w : World} {base : Nat} {v : Value} {l : List UInt8} (h : w.ownsRow base 21 1 v l.length (l.map rv)) (hl : ∀ b ∈ l, b.toNat < 128) :
    (convert 56 9 v).run Try.prog w = .ok (.string ⟨l.toArray⟩) w := by
  have z : (⟨#[]⟩ : ByteArray) ++ ⟨l.toArray⟩ = ⟨l.toArray⟩ := cat [] l
  obtain ⟨_, ⟨rfl, h0⟩ | ⟨g, cap, ⟨cur⟩, rfl, _, hg, hn, _, hs, ht⟩⟩ := h
  · obtain rfl : l = [] := List.length_eq_zero_iff.1 h0
    exact run_convert_runes_nil w _ _ 21 _ _ Try.underlying56 Try.underlying21 Try.underlying9
  · have ce : ∀ o, w.cell? ⟨g, o, none⟩ = cur[o]? := fun o => by rw [cell_of_block hg]; simp
    have e := run_convert_runes w 56 9 21 ⟨g, 0, none⟩ l.length cap (l.map fun b => (b.toNat : Int)) (by simp) Try.underlying56 Try.underlying21 Try.underlying9 (by
      intro j hj
      have e1 : (⟨g, 0, none⟩ : Addr).add j = ⟨g, j, none⟩ := by unfold Addr.add; by_cases h : j = 0 <;> simp [h]
      rw [e1, ce]
      have hj' : j < l.length := by simpa using hj
      have e2 : cur[j]? = (cur.take (l.length * 1))[j]? := by rw [List.getElem?_take_of_lt (by omega)]
      have ht' : cur.take (l.length * 1) = l.map rv := ht
      rw [e2, ht']
      simp [hj', List.getD])
    have e2 : (l.map fun b => (b.toNat : Int)).take l.length = l.map fun b => (b.toNat : Int) := List.take_of_length_le (by simp)
    rw [e, e2]
    unfold runesBytes
    rw [runes_low l _ hl]
    exact congrArg (fun x => Result.ok (Value.string x) w) z
/-- What lies there while the text grows: the text, and the two arrays in their blocks. -/
structure Tx (w0 w : World) (b1 b2 : Nat) (v : Value) (l : List UInt8) : Prop where
  own : w.ownsRow w0.heap.size 21 1 v l.length (l.map rv)
  below : Below w0.heap.size w0 w
  k1 : w.heap[b1]? = some (.cells #[.int .i64 1, .int .i64 2, .int .i64 2, .int .i64 2] 57 (0, 0))
  k2 : w.heap[b2]? = some (.cells #[.int .i32 100, .int .i32 109, .int .i32 46, .int .i32 115] 58 (0, 0))
  n1 : v.ownBlock ≠ some b1
  n2 : v.ownBlock ≠ some b2
theorem Tx.kept {w0 w w' : World} {b1 b2 : Nat} {v : Value} {l : List UInt8} (T : Tx w0 w b1 b2 v l) (B : Below w.heap.size w w') : Tx w0 w' b1 b2 v l :=
  ⟨own_kept T.own B, below1 T.below B, (B.block b1 (Array.getElem?_eq_some_iff.1 T.k1).1).trans T.k1, (B.block b2 (Array.getElem?_eq_some_iff.1 T.k2).1).trans T.k2, T.n1, T.n2⟩
theorem Tx.grown {w0 w w' : World} {b1 b2 : Nat} {v v' : Value} {l l' : List UInt8} (T : Tx w0 w b1 b2 v l) (hg : w.grownBy w' v.ownBlock) (ho : w'.ownsRow w0.heap.size 21 1 v' l'.length (l'.map rv)) (hb : v'.ownBlock = v.ownBlock ∨ v'.ownBlock = some w.heap.size) : Tx w0 w' b1 b2 v' l' := by
  have l1 := (Array.getElem?_eq_some_iff.1 T.k1).1
  have l2 := (Array.getElem?_eq_some_iff.1 T.k2).1
  refine ⟨ho, T.below.grown hg T.below.size fun k hk => (T.own.lt k hk).1, (hg.block b1 l1 (fun e => T.n1 e.symm)).trans T.k1, (hg.block b2 l2 (fun e => T.n2 e.symm)).trans T.k2, ?_, ?_⟩
  · rcases hb with hb | hb
    · rw [hb]; exact T.n1
    · rw [hb]; intro e; have := Option.some.inj e; omega
  · rcases hb with hb | hb
    · rw [hb]; exact T.n2
    · rw [hb]; intro e; have := Option.some.inj e; omega
theorem Tx.lt {w0 w : World} {b1 b2 : Nat} {v : Value} {l : List UInt8} (T : Tx w0 w b1 b2 v l) : b1 < w.heap.size ∧ b2 < w.heap.size := ⟨(Array.getElem?_eq_some_iff.1 T.k1).1, (Array.getElem?_eq_some_iff.1 T.k2).1⟩
theorem Tx.least {w0 w : World} {b1 b2 : Nat} {v : Value} {l : List UInt8} (T : Tx w0 w b1 b2 v l) : w.cell? ⟨b1, 0, none⟩ = some (.int .i64 1) ∧ w.cell? ⟨b1, 1, none⟩ = some (.int .i64 2) ∧ w.cell? ⟨b1, 2, none⟩ = some (.int .i64 2) ∧ w.cell? ⟨b1, 3, none⟩ = some (.int .i64 2) :=
  ⟨by rw [cell_of_block T.k1]; rfl, by rw [cell_of_block T.k1]; rfl, by rw [cell_of_block T.k1]; rfl, by rw [cell_of_block T.k1]; rfl⟩
theorem Tx.behind {w0 w : World} {b1 b2 : Nat} {v : Value} {l : List UInt8} (T : Tx w0 w b1 b2 v l) : w.cell? ⟨b2, 0, none⟩ = some (.int .i32 100) ∧ w.cell? ⟨b2, 1, none⟩ = some (.int .i32 109) ∧ w.cell? ⟨b2, 2, none⟩ = some (.int .i32 46) ∧ w.cell? ⟨b2, 3, none⟩ = some (.int .i32 115) :=
  ⟨by rw [cell_of_block T.k2]; rfl, by rw [cell_of_block T.k2]; rfl, by rw [cell_of_block T.k2]; rfl, by rw [cell_of_block T.k2]; rfl⟩
/-- Runes more behind the text. -/
theorem wpTx {w0 w : World} {b1 b2 : Nat} {ops : Array Oper} {rest : List Oper} {o : Oper} {a : Act} {Q : Exit → Act → World → Prop} (hgd : o.guard = none) (s x : Operand)
    (ho : o.op = .call { callee := .builtin .append, args := #[s, x], argTypes := #[56, 56] }) (v : Value) (l m : List UInt8) (hs : a.eval s = v) (T : Tx w0 w b1 b2 v l)
    (ad : Addr) (k c : Nat) (hx : a.eval x = .slice (some ad) k c) (hk : k = m.length) (hc : ∀ j u, (m.map rv)[j]? = some u → w.cell? (ad.add j) = some u) (hn : l.length + m.length ≤ 1000)
    (K : ∀ v' w', Tx w0 w' b1 b2 v' (l ++ m) → wpList Try.prog ops Q rest (a.put o.dst v') w') : wpList Try.prog ops Q (o :: rest) a w := by
  obtain ⟨i0, hi, hz0, hz1, hz2⟩ := info_parts infoR
  subst hk
  refine wpList_append_own_at w hgd s x 56 ho w0.heap.size 21 i0 (.int .i32 0) 1 4 Try.underlying56 hi hz0 hz1 hz2 rfl (by decide) v l.length (l.map rv) hs T.own ad m.length c (m.map rv) hx (by simp) hc (by intro u hu; simp at hu; obtain ⟨b, _, rfl⟩ := hu; rfl) (by unfold maxLen; omega) (by omega) T.below.size ?_
  intro v' w' ho' hg _ hb
  exact K v' w' (T.grown hg (by simpa using ho') hb)
/-- The runes of an own row lie where its value says. -/
theorem row_at {w : World} {base : Nat} {v : Value} {l : List UInt8} (h : w.ownsRow base 21 1 v l.length (l.map rv)) (hl : 1 ≤ l.length) : ∃ g cap, v = .slice (some ⟨g, 0, none⟩) l.length cap ∧ ∀ j u, (l.map rv)[j]? = some u → w.cell? ((⟨g, 0, none⟩ : Addr).add j) = some u := by
  obtain ⟨_, ⟨rfl, h0⟩ | ⟨g, cap, ⟨cur⟩, rfl, _, hg, hn, _, hs, ht⟩⟩ := h
  · omega
  · refine ⟨g, cap, rfl, fun j u hu => ?_⟩
    have e1 : (⟨g, 0, none⟩ : Addr).add j = ⟨g, j, none⟩ := by unfold Addr.add; by_cases h : j = 0 <;> simp [h]
    have hj : j < l.length := by have := (List.getElem?_eq_some_iff.1 hu).1; simpa using this
    rw [e1, cell_of_block hg]
    have e2 : cur[j]? = (cur.take (l.length * 1))[j]? := by rw [List.getElem?_take_of_lt (by omega)]
    have ht' : cur.take (l.length * 1) = l.map rv := ht
    simp only [List.getElem?_toArray]
    rw [e2, ht']
    exact hu
theorem Tx.new {w0 w : World} {v : Value} {l : List UInt8} (B : Below w0.heap.size w0 w) (ho : w.ownsRow w0.heap.size 21 1 v l.length (l.map rv)) :
    Tx w0 ((w.alloc (.cells #[.int .i64 1, .int .i64 2, .int .i64 2, .int .i64 2] 57)).alloc (.cells #[.int .i32 100, .int .i32 109, .int .i32 46, .int .i32 115] 58)) w.heap.size (w.heap.size + 1) v l := by
  have hlt : ∀ k, v.ownBlock = some k → k < w.heap.size := fun k hk => (ho.lt k hk).2
  refine ⟨own_kept ho (below1 (below_new _ _) (below_new _ _)), below1 B (below1 (below_new _ _) (below_new _ _)), ?_, ?_, fun e => by have := hlt _ e; omega, fun e => by have := hlt _ e; omega⟩
  · rw [Below.heap_alloc _ _ _ (by simp)]
    exact heap_alloc_new w _
  · have := heap_alloc_new (w.alloc (.cells #[.int .i64 1, .int .i64 2, .int .i64 2, .int .i64 2] 57)) (.cells #[.int .i32 100, .int .i32 109, .int .i32 46, .int .i32 115] 58)
    simpa using this
set_option maxHeartbeats 4000000 in
theorem text_yes (a : Int) (w : World) (h : inT a = true) :
    Calls Try.prog 18 #[.int .i64 a] w fun e w' => e = .returned (.string ⟨(text a).toArray⟩) ∧ Below w.heap.size w w' := by
  obtain ⟨⟨d0, d1⟩, ⟨mm0, mm1⟩, ⟨s0, s1⟩, u0, u1⟩ := parts_in h
  have P := fun w => partsOf_any a w h
  have low := fun b hb => low_text h (b := b) hb
  have E : text a = (if a < 0 then [45] else []) ++ dec (deg a) ++ [100] ++ two (mi a) ++ [109] ++ two (se a) ++ [46] ++ two (hu a) ++ [115] := by
    unfold text body
    by_cases c : a < 0
    · simp [c]
    · simp [c]
  have F1 : ∀ w : World, Calls Try.prog 39 #[.int .i64 (deg a), .int .i64 1] w fun e w' => ∃ v, e = .returned v ∧ w'.ownsRow w.heap.size 21 1 v (dec (deg a)).length ((dec (deg a)).map rv) ∧ Below w.heap.size w w' := fun w => by
    have := figures_any (deg a) 1 w d0 (by omega) (by omega) (by omega)
    rw [dig_dec d0 (by omega)] at this
    exact this
  have F2 : ∀ w : World, Calls Try.prog 39 #[.int .i64 (mi a), .int .i64 2] w fun e w' => ∃ v, e = .returned v ∧ w'.ownsRow w.heap.size 21 1 v (two (mi a)).length ((two (mi a)).map rv) ∧ Below w.heap.size w w' := fun w => by
    have := figures_any (mi a) 2 w mm0 (by omega) (by omega) (by omega)
    rw [dig_two mm0 (by omega)] at this
    exact this
  have F3 : ∀ w : World, Calls Try.prog 39 #[.int .i64 (se a), .int .i64 2] w fun e w' => ∃ v, e = .returned v ∧ w'.ownsRow w.heap.size 21 1 v (two (se a)).length ((two (se a)).map rv) ∧ Below w.heap.size w w' := fun w => by
    have := figures_any (se a) 2 w s0 (by omega) (by omega) (by omega)
    rw [dig_two s0 (by omega)] at this
    exact this
  have F4 : ∀ w : World, Calls Try.prog 39 #[.int .i64 (hu a), .int .i64 2] w fun e w' => ∃ v, e = .returned v ∧ w'.ownsRow w.heap.size 21 1 v (two (hu a)).length ((two (hu a)).map rv) ∧ Below w.heap.size w w' := fun w => by
    have := figures_any (hu a) 2 w u0 (by omega) (by omega) (by omega)
    rw [dig_two u0 (by omega)] at this
    exact this
  have D := @dec_len (deg a)
  have T1 : (two (mi a)).length = 2 := rfl
  have T2 : (two (se a)).length = 2 := rfl
  have T3 : (two (hu a)).length = 2 := rfl
  generalize deg a = x1 at *
  generalize mi a = x2 at *
  generalize se a = x3 at *
  generalize hu a = x4 at *
  generalize dec x1 = l1 at *
  generalize two x2 = l2 at *
  generalize two x3 = l3 at *
  generalize two x4 = l4 at *
  replace T1 : l2.length = 2 ∧ l2.length ≤ 2 := ⟨T1, by omega⟩
  replace T2 : l3.length = 2 ∧ l3.length ≤ 2 := ⟨T2, by omega⟩
  replace T3 : l4.length = 2 ∧ l4.length ≤ 2 := ⟨T3, by omega⟩
  have m1 : 1 ≤ l1.length := D.1
  have m2 : 1 ≤ l2.length := by omega
  have m3 : 1 ≤ l3.length := by omega
  have m4 : 1 ≤ l4.length := by omega
  have m5 : l1.length ≤ 3 := D.2
  replace T1 := T1.2
  replace T2 := T2.2
  replace T3 := T3.2
  clear D d0 d1 mm0 mm1 s0 s1 u0 u1
  have LOW := Hide.mk low
  have ET := Hide.mk E
  clear low E
  generalize text a = tx at *
  have i0 : ∀ w : World, (Instr.index 57 (fourV x1 x2 x3 x4) (.int .i64 0)).run Try.prog w = .ok (.int .i64 x1) w := fun _ => by kernel_rfl
  have i1 : ∀ w : World, (Instr.index 57 (fourV x1 x2 x3 x4) (.int .i64 1)).run Try.prog w = .ok (.int .i64 x2) w := fun _ => by kernel_rfl
  have i2 : ∀ w : World, (Instr.index 57 (fourV x1 x2 x3 x4) (.int .i64 2)).run Try.prog w = .ok (.int .i64 x3) w := fun _ => by kernel_rfl
  have i3 : ∀ w : World, (Instr.index 57 (fourV x1 x2 x3 x4) (.int .i64 3)).run Try.prog w = .ok (.int .i64 x4) w := fun _ => by kernel_rfl
  by_cases c : a < 0
  · obtain ⟨L0, hL⟩ : ∃ x : List UInt8, x = [45] := ⟨_, rfl⟩
    have H0 := Hide.mk hL
    have n0 : L0.length = 1 := by rw [hL]; rfl
    clear hL
    go_enter Try.func18, Try.ntmps18
    go_wp2_with fail
    refine (isT_any _ _).mono ?_
    rintro e w' ⟨rfl, rfl⟩
    have G1 : ([] : List UInt8).length + [(45 : UInt8)].length ≤ 1000 := by simp
    have G2 : Hide (w'.heap.size ≤ (w'.alloc (.cells #[.int .i32 45] 21)).heap.size) := ⟨by simp⟩
    go_wp2_with (first
      | (at_builtin; refine wpApp rfl _ _ rfl w'.heap.size (.slice none 0 0) [] [45] rfl (World.ownsRow_nil _ _ _ _) ⟨w'.heap.size, 0, none⟩ 1 1 rfl rfl (one_new w' 45 45 rfl) G1 G2.out ?_; intro v0 w0 hO hg; have HB := Hide.mk (app_below (below_new w' _) G2.out (World.ownsRow_nil _ _ 21 _) hg); have HO := Hide.mk hO; clear hO hg)
      | fail)
    have T0 := Tx.new HB.out HO.out
    rw [List.nil_append, ← H0.out] at T0
    have HT0 := Hide.mk T0
    clear T0 HB HO
    refine (P _).mono ?_
    rintro e w1 ⟨rfl, B1⟩
    have T := HT0.out.kept B1
    clear HT0 B1
    go_wp2_with fail
    refine wp_loop_rounds 5 ?_
    rw [rounds_succ]
    obtain ⟨b0, b1, b2, b3⟩ := T.least
    go_wp2_with fail
    refine (F1 _).mono ?_
    rintro e wf0 ⟨vf, rfl, hf, Bf⟩
    replace T := T.kept Bf
    clear b0 b1 b2 b3
    obtain ⟨g, cf, rfl, hrow⟩ := row_at hf m1
    have HR := Hide.mk hrow
    have HT := Hide.mk T
    have hsum : L0.length + l1.length ≤ 1000 := by omega
    have hsum2 : (L0 ++ l1).length + [(100 : UInt8)].length ≤ 1000 := by simp; omega
    clear hf Bf hrow T
    go_wp2_with (first
      | (at_builtin; refine wpTx rfl _ _ rfl _ L0 l1 rfl HT.out ⟨g, 0, none⟩ l1.length cf rfl rfl HR.out hsum ?_; intro va0 wa0 T; obtain ⟨c0, c1, c2, c3⟩ := T.behind; have HT2 := Hide.mk T; clear T HT HR)
      | (at_builtin; refine wpTx rfl _ _ rfl _ (L0 ++ l1) [100] rfl (HT2.out.kept (below_new wa0 _)) ⟨wa0.heap.size, 0, none⟩ 1 1 rfl rfl (one_new wa0 100 100 rfl) hsum2 ?_; intro vb0 wb0 T; have HT := Hide.mk T; clear T)
      | go_in)
    have T := HT.out
    clear c0 c1 c2 c3 HT2 HT
    obtain ⟨L1, hL⟩ : ∃ x, L0 ++ l1 ++ [100] = x := ⟨_, rfl⟩
    have n1 : L1.length = L0.length + l1.length + 1 := by rw [← hL, List.length_append, List.length_append]; rfl
    rw [hL] at T
    have H1 := Hide.mk hL
    clear hL hsum hsum2
    rw [rounds_succ]
    obtain ⟨b0, b1, b2, b3⟩ := T.least
    go_wp2_with fail
    refine (F2 _).mono ?_
    rintro e wf1 ⟨vf, rfl, hf, Bf⟩
    replace T := T.kept Bf
    clear b0 b1 b2 b3
    obtain ⟨g, cf, rfl, hrow⟩ := row_at hf m2
    have HR := Hide.mk hrow
    have HT := Hide.mk T
    have hsum : L1.length + l2.length ≤ 1000 := by omega
    have hsum2 : (L1 ++ l2).length + [(109 : UInt8)].length ≤ 1000 := by simp; omega
    clear hf Bf hrow T
    go_wp2_with (first
      | (at_builtin; refine wpTx rfl _ _ rfl _ L1 l2 rfl HT.out ⟨g, 0, none⟩ l2.length cf rfl rfl HR.out hsum ?_; intro va1 wa1 T; obtain ⟨c0, c1, c2, c3⟩ := T.behind; have HT2 := Hide.mk T; clear T HT HR)
      | (at_builtin; refine wpTx rfl _ _ rfl _ (L1 ++ l2) [109] rfl (HT2.out.kept (below_new wa1 _)) ⟨wa1.heap.size, 0, none⟩ 1 1 rfl rfl (one_new wa1 109 109 rfl) hsum2 ?_; intro vb1 wb1 T; have HT := Hide.mk T; clear T)
      | go_in)
    have T := HT.out
    clear c0 c1 c2 c3 HT2 HT
    obtain ⟨L2, hL⟩ : ∃ x, L1 ++ l2 ++ [109] = x := ⟨_, rfl⟩
    have n2 : L2.length = L1.length + l2.length + 1 := by rw [← hL, List.length_append, List.length_append]; rfl
    rw [hL] at T
    have H2 := Hide.mk hL
    clear hL hsum hsum2
    rw [rounds_succ]
    obtain ⟨b0, b1, b2, b3⟩ := T.least
    go_wp2_with fail
    refine (F3 _).mono ?_
    rintro e wf2 ⟨vf, rfl, hf, Bf⟩
    replace T := T.kept Bf
    clear b0 b1 b2 b3
    obtain ⟨g, cf, rfl, hrow⟩ := row_at hf m3
    have HR := Hide.mk hrow
    have HT := Hide.mk T
    have hsum : L2.length + l3.length ≤ 1000 := by omega
    have hsum2 : (L2 ++ l3).length + [(46 : UInt8)].length ≤ 1000 := by simp; omega
    clear hf Bf hrow T
    go_wp2_with (first
      | (at_builtin; refine wpTx rfl _ _ rfl _ L2 l3 rfl HT.out ⟨g, 0, none⟩ l3.length cf rfl rfl HR.out hsum ?_; intro va2 wa2 T; obtain ⟨c0, c1, c2, c3⟩ := T.behind; have HT2 := Hide.mk T; clear T HT HR)
      | (at_builtin; refine wpTx rfl _ _ rfl _ (L2 ++ l3) [46] rfl (HT2.out.kept (below_new wa2 _)) ⟨wa2.heap.size, 0, none⟩ 1 1 rfl rfl (one_new wa2 46 46 rfl) hsum2 ?_; intro vb2 wb2 T; have HT := Hide.mk T; clear T)
      | go_in)
    have T := HT.out
    clear c0 c1 c2 c3 HT2 HT
    obtain ⟨L3, hL⟩ : ∃ x, L2 ++ l3 ++ [46] = x := ⟨_, rfl⟩
    have n3 : L3.length = L2.length + l3.length + 1 := by rw [← hL, List.length_append, List.length_append]; rfl
    rw [hL] at T
    have H3 := Hide.mk hL
    clear hL hsum hsum2
    rw [rounds_succ]
    obtain ⟨b0, b1, b2, b3⟩ := T.least
    go_wp2_with fail
    refine (F4 _).mono ?_
    rintro e wf3 ⟨vf, rfl, hf, Bf⟩
    replace T := T.kept Bf
    clear b0 b1 b2 b3
    obtain ⟨g, cf, rfl, hrow⟩ := row_at hf m4
    have HR := Hide.mk hrow
    have HT := Hide.mk T
    have hsum : L3.length + l4.length ≤ 1000 := by omega
    have hsum2 : (L3 ++ l4).length + [(115 : UInt8)].length ≤ 1000 := by simp; omega
    clear hf Bf hrow T
    go_wp2_with (first
      | (at_builtin; refine wpTx rfl _ _ rfl _ L3 l4 rfl HT.out ⟨g, 0, none⟩ l4.length cf rfl rfl HR.out hsum ?_; intro va3 wa3 T; obtain ⟨c0, c1, c2, c3⟩ := T.behind; have HT2 := Hide.mk T; clear T HT HR)
      | (at_builtin; refine wpTx rfl _ _ rfl _ (L3 ++ l4) [115] rfl (HT2.out.kept (below_new wa3 _)) ⟨wa3.heap.size, 0, none⟩ 1 1 rfl rfl (one_new wa3 115 115 rfl) hsum2 ?_; intro vb3 wb3 T; have HT := Hide.mk T; clear T)
      | go_in)
    have T := HT.out
    clear c0 c1 c2 c3 HT2 HT
    obtain ⟨L4, hL⟩ : ∃ x, L3 ++ l4 ++ [115] = x := ⟨_, rfl⟩
    have n4 : L4.length = L3.length + l4.length + 1 := by rw [← hL, List.length_append, List.length_append]; rfl
    rw [hL] at T
    have H4 := Hide.mk hL
    clear hL hsum hsum2
    have eL : L4 = tx := by rw [ET.out]; simp [c, ← H4.out, ← H3.out, ← H2.out, ← H1.out, H0.out]
    have hcv := str_runes T.own (fun b hb => LOW.out b (by rw [← eL]; exact hb))
    have B := Hide.mk T.below
    rw [eL] at hcv
    clear T
    rw [rounds_succ]
    go_wp2
    go_ret
    exact ⟨rfl, B.out⟩
  · obtain ⟨L0, hL⟩ : ∃ x : List UInt8, x = [] := ⟨_, rfl⟩
    have H0 := Hide.mk hL
    have n0 : L0.length = 0 := by rw [hL]; rfl
    clear hL
    go_enter Try.func18, Try.ntmps18
    go_wp2_with fail
    refine (isT_any _ _).mono ?_
    rintro e w' ⟨rfl, rfl⟩
    have T0 : Tx w' _ _ _ _ L0 := Tx.new (Below.refl _ w') (by rw [H0.out]; exact World.ownsRow_nil w' w'.heap.size 21 1)
    have HT0 := Hide.mk T0
    clear T0
    go_wp2_with fail
    refine (P _).mono ?_
    rintro e w1 ⟨rfl, B1⟩
    have T := HT0.out.kept B1
    clear HT0 B1
    go_wp2_with fail
    refine wp_loop_rounds 5 ?_
    rw [rounds_succ]
    obtain ⟨b0, b1, b2, b3⟩ := T.least
    go_wp2_with fail
    refine (F1 _).mono ?_
    rintro e wf0 ⟨vf, rfl, hf, Bf⟩
    replace T := T.kept Bf
    clear b0 b1 b2 b3
    obtain ⟨g, cf, rfl, hrow⟩ := row_at hf m1
    have HR := Hide.mk hrow
    have HT := Hide.mk T
    have hsum : L0.length + l1.length ≤ 1000 := by omega
    have hsum2 : (L0 ++ l1).length + [(100 : UInt8)].length ≤ 1000 := by simp; omega
    clear hf Bf hrow T
    go_wp2_with (first
      | (at_builtin; refine wpTx rfl _ _ rfl _ L0 l1 rfl HT.out ⟨g, 0, none⟩ l1.length cf rfl rfl HR.out hsum ?_; intro va0 wa0 T; obtain ⟨c0, c1, c2, c3⟩ := T.behind; have HT2 := Hide.mk T; clear T HT HR)
      | (at_builtin; refine wpTx rfl _ _ rfl _ (L0 ++ l1) [100] rfl (HT2.out.kept (below_new wa0 _)) ⟨wa0.heap.size, 0, none⟩ 1 1 rfl rfl (one_new wa0 100 100 rfl) hsum2 ?_; intro vb0 wb0 T; have HT := Hide.mk T; clear T)
      | go_in)
    have T := HT.out
    clear c0 c1 c2 c3 HT2 HT
    obtain ⟨L1, hL⟩ : ∃ x, L0 ++ l1 ++ [100] = x := ⟨_, rfl⟩
    have n1 : L1.length = L0.length + l1.length + 1 := by rw [← hL, List.length_append, List.length_append]; rfl
    rw [hL] at T
    have H1 := Hide.mk hL
    clear hL hsum hsum2
    rw [rounds_succ]
    obtain ⟨b0, b1, b2, b3⟩ := T.least
    go_wp2_with fail
    refine (F2 _).mono ?_
    rintro e wf1 ⟨vf, rfl, hf, Bf⟩
    replace T := T.kept Bf
    clear b0 b1 b2 b3
    obtain ⟨g, cf, rfl, hrow⟩ := row_at hf m2
    have HR := Hide.mk hrow
    have HT := Hide.mk T
    have hsum : L1.length + l2.length ≤ 1000 := by omega
    have hsum2 : (L1 ++ l2).length + [(109 : UInt8)].length ≤ 1000 := by simp; omega
    clear hf Bf hrow T
    go_wp2_with (first
      | (at_builtin; refine wpTx rfl _ _ rfl _ L1 l2 rfl HT.out ⟨g, 0, none⟩ l2.length cf rfl rfl HR.out hsum ?_; intro va1 wa1 T; obtain ⟨c0, c1, c2, c3⟩ := T.behind; have HT2 := Hide.mk T; clear T HT HR)
      | (at_builtin; refine wpTx rfl _ _ rfl _ (L1 ++ l2) [109] rfl (HT2.out.kept (below_new wa1 _)) ⟨wa1.heap.size, 0, none⟩ 1 1 rfl rfl (one_new wa1 109 109 rfl) hsum2 ?_; intro vb1 wb1 T; have HT := Hide.mk T; clear T)
      | go_in)
    have T := HT.out
    clear c0 c1 c2 c3 HT2 HT
    obtain ⟨L2, hL⟩ : ∃ x, L1 ++ l2 ++ [109] = x := ⟨_, rfl⟩
    have n2 : L2.length = L1.length + l2.length + 1 := by rw [← hL, List.length_append, List.length_append]; rfl
    rw [hL] at T
    have H2 := Hide.mk hL
    clear hL hsum hsum2
    rw [rounds_succ]
    obtain ⟨b0, b1, b2, b3⟩ := T.least
    go_wp2_with fail
    refine (F3 _).mono ?_
    rintro e wf2 ⟨vf, rfl, hf, Bf⟩
    replace T := T.kept Bf
    clear b0 b1 b2 b3
    obtain ⟨g, cf, rfl, hrow⟩ := row_at hf m3
    have HR := Hide.mk hrow
    have HT := Hide.mk T
    have hsum : L2.length + l3.length ≤ 1000 := by omega
    have hsum2 : (L2 ++ l3).length + [(46 : UInt8)].length ≤ 1000 := by simp; omega
    clear hf Bf hrow T
    go_wp2_with (first
      | (at_builtin; refine wpTx rfl _ _ rfl _ L2 l3 rfl HT.out ⟨g, 0, none⟩ l3.length cf rfl rfl HR.out hsum ?_; intro va2 wa2 T; obtain ⟨c0, c1, c2, c3⟩ := T.behind; have HT2 := Hide.mk T; clear T HT HR)
      | (at_builtin; refine wpTx rfl _ _ rfl _ (L2 ++ l3) [46] rfl (HT2.out.kept (below_new wa2 _)) ⟨wa2.heap.size, 0, none⟩ 1 1 rfl rfl (one_new wa2 46 46 rfl) hsum2 ?_; intro vb2 wb2 T; have HT := Hide.mk T; clear T)
      | go_in)
    have T := HT.out
    clear c0 c1 c2 c3 HT2 HT
    obtain ⟨L3, hL⟩ : ∃ x, L2 ++ l3 ++ [46] = x := ⟨_, rfl⟩
    have n3 : L3.length = L2.length + l3.length + 1 := by rw [← hL, List.length_append, List.length_append]; rfl
    rw [hL] at T
    have H3 := Hide.mk hL
    clear hL hsum hsum2
    rw [rounds_succ]
    obtain ⟨b0, b1, b2, b3⟩ := T.least
    go_wp2_with fail
    refine (F4 _).mono ?_
    rintro e wf3 ⟨vf, rfl, hf, Bf⟩
    replace T := T.kept Bf
    clear b0 b1 b2 b3
    obtain ⟨g, cf, rfl, hrow⟩ := row_at hf m4
    have HR := Hide.mk hrow
    have HT := Hide.mk T
    have hsum : L3.length + l4.length ≤ 1000 := by omega
    have hsum2 : (L3 ++ l4).length + [(115 : UInt8)].length ≤ 1000 := by simp; omega
    clear hf Bf hrow T
    go_wp2_with (first
      | (at_builtin; refine wpTx rfl _ _ rfl _ L3 l4 rfl HT.out ⟨g, 0, none⟩ l4.length cf rfl rfl HR.out hsum ?_; intro va3 wa3 T; obtain ⟨c0, c1, c2, c3⟩ := T.behind; have HT2 := Hide.mk T; clear T HT HR)
      | (at_builtin; refine wpTx rfl _ _ rfl _ (L3 ++ l4) [115] rfl (HT2.out.kept (below_new wa3 _)) ⟨wa3.heap.size, 0, none⟩ 1 1 rfl rfl (one_new wa3 115 115 rfl) hsum2 ?_; intro vb3 wb3 T; have HT := Hide.mk T; clear T)
      | go_in)
    have T := HT.out
    clear c0 c1 c2 c3 HT2 HT
    obtain ⟨L4, hL⟩ : ∃ x, L3 ++ l4 ++ [115] = x := ⟨_, rfl⟩
    have n4 : L4.length = L3.length + l4.length + 1 := by rw [← hL, List.length_append, List.length_append]; rfl
    rw [hL] at T
    have H4 := Hide.mk hL
    clear hL hsum hsum2
    have eL : L4 = tx := by rw [ET.out]; simp [c, ← H4.out, ← H3.out, ← H2.out, ← H1.out, H0.out]
    have hcv := str_runes T.own (fun b hb => LOW.out b (by rw [← eL]; exact hb))
    have B := Hide.mk T.below
    rw [eL] at hcv
    clear T
    rw [rounds_succ]
    go_wp2
    go_ret
    exact ⟨rfl, B.out⟩
theorem text_any (a : Int) (w : World) :
    Calls Try.prog 18 #[.int .i64 a] w fun e w' => e = .returned (.string ⟨(textV a).toArray⟩) ∧ Below w.heap.size w w' := by
  cases h : inT a
  · have e : textV a = [] := by simp [textV, h]
    rw [e]
    go_enter Try.func18, Try.ntmps18
    go_wp2_with fail
    refine (isT_any _ _).mono ?_
    rintro e w' ⟨rfl, rfl⟩
    go_wp2
    go_ret
    exact ⟨rfl, Below.refl _ _⟩
  · have e : textV a = text a := by simp [textV, h]
    rw [e]
    exact text_yes a w h
end AW
end Go.Proofs.Ytfdkpcejjcifgau
