/-
  The program's row: the sum of the terms that are ranged over.
-/
import Derived.Test.YtiidbbnclhknpaaDoorSineIter
namespace Go.Proofs.YtiidbbnclhknpaaDoor
open Go.RowKit Go.Sort Go.Shelf
set_option linter.unusedVariables false
attribute [local go_sem] Oper.semAt_some
namespace SK
theorem about_eq (l h : Int) (w : World) (l0 : -30000000000 ≤ l) (l1 : l ≤ 30000000000) (h0 : -30000000000 ≤ h) (h1 : h ≤ 30000000000) :
    Calls Tryd.prog 31 #[spV l h] w fun e w' => e = .returned (spV (-h) (-l)) ∧ w' = (w.alloc (.cells #[.int .i64 l, .int .i64 h] 26)).alloc (.cells #[.int .i64 (-h), .int .i64 (-l)] 26) := by
  go_enter Tryd.func31, Tryd.ntmps31
  go_wp2
  refine bodyPost_ret (v := .agg #[.int .i64 (-h), .int .i64 (-l)]) (by simp [results, Tryd.results31, go_sem]) rfl ⟨rfl, ?_⟩
  rfl
theorem plus_eq (sl sh tl th : Int) (w : World) (l0 : -30000000000 ≤ sl) (l1 : sl ≤ 30000000000) (h0 : -30000000000 ≤ sh) (h1 : sh ≤ 30000000000) (m0 : -30000000000 ≤ tl) (m1 : tl ≤ 30000000000) (k0 : -30000000000 ≤ th) (k1 : th ≤ 30000000000) :
    Calls Tryd.prog 65 #[spV sl sh, spV tl th] w fun e w' => e = .returned (spV (sl + tl) (sh + th)) ∧ w' = ((w.alloc (.cells #[.int .i64 sl, .int .i64 sh] 26)).alloc (.cells #[.int .i64 tl, .int .i64 th] 26)).alloc (.cells #[.int .i64 (sl + tl), .int .i64 (sh + th)] 26) := by
  go_enter Tryd.func65, Tryd.ntmps65
  go_wp2
  refine bodyPost_ret (v := .agg #[.int .i64 (sl + tl), .int .i64 (sh + th)]) (by simp [results, Tryd.results65, go_sem]) rfl ⟨rfl, ?_⟩
  rfl
theorem termsOf_eq (first x n0 : Int) (w : World) :
    Calls Tryd.prog 64 #[.int .i64 first, .int .i64 x, .int .i64 n0] w fun e w' => e = .returned (.func (.func 66) #[] #[.pointer (some ⟨w.heap.size + 1, 0, none⟩), .pointer (some ⟨w.heap.size, 0, none⟩), .pointer (some ⟨w.heap.size + 2, 0, none⟩)]) ∧
      w' = ((w.alloc (.cells #[.int .i64 first] 3)).alloc (.cells #[.int .i64 x] 3)).alloc (.cells #[.int .i64 n0] 3) := by
  go_enter Tryd.func64, Tryd.ntmps64
  go_wp2
  go_ret
  exact ⟨rfl, rfl⟩
/-- What lies in the row's own blocks, behind so many terms. -/
structure RowI (w : World) (first x n0 : Int) (k : Nat) (X : World) : Prop where
  ans : Box X w.heap.size 0 0
  sum : Box X (w.heap.size + 1) (SI.ll first x n0 k) (SI.hh first x n0 k)
  aw : X.cell? ⟨w.heap.size + 1 + 1, 0, none⟩ = some (.bool (SI.les k))
  af : X.frozen? ⟨w.heap.size + 1 + 1, 0, none⟩ = false
  st : SI.Still first x n0 k
  be : Below w.heap.size w X
theorem Box.keep {X Y : World} {b B : Nat} {x y : Int} (h : Box X b x y) (k : Below B X Y) (hb : b < B) : Box Y b x y :=
  ⟨(k.cell hb).trans h.c0, (k.cell hb).trans h.c1, (k.frozen hb).trans h.f0, (k.frozen hb).trans h.f1⟩
theorem RowI.keep {w : World} {first x n0 : Int} {k B : Nat} {X Y : World} (h : RowI w first x n0 k X) (b : Below B X Y) (hB : w.heap.size + 3 ≤ B) : RowI w first x n0 k Y :=
  ⟨h.ans.keep b (by omega), h.sum.keep b (by omega), (b.cell (by simp only []; omega)).trans h.aw, (b.frozen (by simp only []; omega)).trans h.af, h.st, h.be.trans (b.mono (by omega))⟩
theorem Box.setB {X : World} {b c : Nat} {x y : Int} (h : Box X b x y) (hn : c ≠ b) (v : Value) : Box (X.setCell ⟨c, 0, none⟩ v) b x y := h.apart hn v
theorem RowI.next {w Y V : World} {first x n0 L H L' H' : Int} {k B0 : Nat} {b b' : Bool} (an : Box Y w.heap.size 0 0) (A : Box V (w.heap.size + 1) L H) (aw : V.cell? ⟨w.heap.size + 1 + 1, 0, none⟩ = some (.bool b)) (af : V.frozen? ⟨w.heap.size + 1 + 1, 0, none⟩ = false)
    (B : Below Y.heap.size Y V) (be : Below w.heap.size w Y) (st : SI.Still first x n0 (k + 1)) (nl : SI.ll first x n0 (k + 1) = L') (nh : SI.hh first x n0 (k + 1) = H') (ne : SI.les (k + 1) = b') (h0 : w.heap.size + 6 ≤ B0) :
    RG.Above B0 Y (((V.setCell ⟨w.heap.size + 1, 0, none⟩ (.int .i64 L')).setCell ⟨w.heap.size + 1, 1, none⟩ (.int .i64 H')).setCell ⟨w.heap.size + 1 + 1, 0, none⟩ (.bool b')) ∧
    RowI w first x n0 (k + 1) (((V.setCell ⟨w.heap.size + 1, 0, none⟩ (.int .i64 L')).setCell ⟨w.heap.size + 1, 1, none⟩ (.int .i64 H')).setCell ⟨w.heap.size + 1 + 1, 0, none⟩ (.bool b')) := by
  have an2 := ((an.kept B).apart (c := w.heap.size + 1) (o := 0) (by omega) (.int .i64 L')).apart (c := w.heap.size + 1) (o := 1) (by omega) (.int .i64 H')
  have A2 := A.set L' H'
  have e : ((V.setCell ⟨w.heap.size + 1, 0, none⟩ (.int .i64 L')).setCell ⟨w.heap.size + 1, 1, none⟩ (.int .i64 H')).heap[w.heap.size + 1 + 1]? = V.heap[w.heap.size + 1 + 1]? := (Below.heap_setCell _ _ _ _ (by simp only []; omega)).trans (Below.heap_setCell _ _ _ _ (by simp only []; omega))
  have aw2 := (World.cell?_of_block (a := ⟨w.heap.size + 1 + 1, 0, none⟩) e).trans aw
  have af2 := (World.frozen?_of_block (a := ⟨w.heap.size + 1 + 1, 0, none⟩) e).trans af
  have B2 := ((be.trans (B.mono be.size)).setCell (p := ⟨w.heap.size + 1, 0, none⟩) (by simp only []; omega) (.int .i64 L')).setCell (p := ⟨w.heap.size + 1, 1, none⟩) (by simp only []; omega) (.int .i64 H')
  have U := (((RG.Above.refl B0 Y).below B (Nat.le_refl _)).setCell (p := ⟨w.heap.size + 1, 0, none⟩) (by simp only []; omega) (.int .i64 L')).setCell (p := ⟨w.heap.size + 1, 1, none⟩) (by simp only []; omega) (.int .i64 H')
  generalize (V.setCell ⟨w.heap.size + 1, 0, none⟩ (.int .i64 L')).setCell ⟨w.heap.size + 1, 1, none⟩ (.int .i64 H') = Z at *
  refine ⟨U.setCell (by simp only []; omega) _, an2.apart (by omega) _, by rw [nl, nh]; exact A2.apart (by omega) _, ?_, ?_, st, B2.setCell (by simp only []; omega) _⟩
  · rw [ne]
    exact World.cell?_setCell_same' _ _ _ (by rw [aw2]; rfl)
  · rw [World.frozen?_setCell]
    exact af2
set_option maxHeartbeats 8000000 in
theorem row_any (first x n0 : Int) (f0 : 0 ≤ first) (f1 : first ≤ 1000000000) (x0 : 0 ≤ x) (x1 : x ≤ 1000000000) (hn : 1 ≤ n0) (hn2 : n0 < 40) (w : World) :
    Calls Tryd.prog 61 #[.int .i64 first, .int .i64 x, .int .i64 n0] w fun e w' => e = .returned (spV (SI.row 21 first first first first true x n0).1 (SI.row 21 first first first first true x n0).2) ∧ Below w.heap.size w w' := by
  refine (callsIn_wide (n := 8)).1 (callsIn_of_wp_marks Tryd.func61 rfl trivial ?_ rfl)
  simp only [Tryd.ntmps61, List.size_toArray, List.length_cons, List.length_nil, Nat.reduceAdd, Nat.reduceSub, Array.replicate_succ, Array.replicate_zero, List.push_toArray, List.append_toArray, List.nil_append, List.cons_append]
  gi_wp2_with (refine ⟨trivial, ?_⟩; gi_at_call 64; refine (callsIn_wide.2 (termsOf_eq first x n0 _)).mono ?_; rintro e w' ⟨rfl, rfl⟩)
  rename_i Q' K hK
  have i0 : RowI w first x n0 0 (((w.alloc (.cells #[.int .i64 0, .int .i64 0] 26)).alloc (.cells #[.int .i64 first, .int .i64 first] 26)).alloc (.cells #[.bool true] 4)) :=
    ⟨((Box.new w 0 0 _).alloc _).alloc _, (Box.new2 w _ first first _).alloc _, by simp [go_sem, SI.les], by simp [go_sem], SI.still0 _ _ _, below1 (below_new2 w _ _) (below_new _ _)⟩
  have sz : (((w.alloc (.cells #[.int .i64 0, .int .i64 0] 26)).alloc (.cells #[.int .i64 first, .int .i64 first] 26)).alloc (.cells #[.bool true] 4)).heap.size = w.heap.size + 1 + 1 + 1 := by simp
  generalize ((w.alloc (.cells #[.int .i64 0, .int .i64 0] 26)).alloc (.cells #[.int .i64 first, .int .i64 first] 26)).alloc (.cells #[.bool true] 4) = X0 at *
  have cf : (((X0.alloc (.cells #[.int .i64 first] 3)).alloc (.cells #[.int .i64 x] 3)).alloc (.cells #[.int .i64 n0] 3)).cell? ⟨w.heap.size + 1 + 1 + 1, 0, none⟩ = some (.int .i64 first) := by rw [← sz]; simp [go_sem]
  have cx : (((X0.alloc (.cells #[.int .i64 first] 3)).alloc (.cells #[.int .i64 x] 3)).alloc (.cells #[.int .i64 n0] 3)).cell? ⟨w.heap.size + 1 + 1 + 1 + 1, 0, none⟩ = some (.int .i64 x) := by rw [← sz]; simp [go_sem]
  have cn : (((X0.alloc (.cells #[.int .i64 first] 3)).alloc (.cells #[.int .i64 x] 3)).alloc (.cells #[.int .i64 n0] 3)).cell? ⟨w.heap.size + 1 + 1 + 1 + 2, 0, none⟩ = some (.int .i64 n0) := by rw [← sz]; simp [go_sem]
  have i1 : RowI w first x n0 0 (((X0.alloc (.cells #[.int .i64 first] 3)).alloc (.cells #[.int .i64 x] 3)).alloc (.cells #[.int .i64 n0] 3)) := i0.keep (below1 (below_new2 X0 _ _) (below_new _ _)) (by omega)
  have sz1 : (((X0.alloc (.cells #[.int .i64 first] 3)).alloc (.cells #[.int .i64 x] 3)).alloc (.cells #[.int .i64 n0] 3)).heap.size = w.heap.size + 6 := by simp; omega
  generalize ((X0.alloc (.cells #[.int .i64 first] 3)).alloc (.cells #[.int .i64 x] 3)).alloc (.cells #[.int .i64 n0] 3) = W0 at *
  clear i0 sz
  refine RG.law rfl (by omega) (gf := 66) rfl trivial (enters_of Tryd.func66 (by kernel_rfl) rfl) (terms_gives 7 (by omega) first x n0 f0 f1 x0 x1 hn hn2 _ _ _ W0 cx cf cn) rfl
    (RowI w first x n0) (fun c X => c = .ret ∧ Box X w.heap.size (SI.row 21 first first first first true x n0).1 (SI.row 21 first first first first true x n0).2 ∧ Below w.heap.size w X)
    (fun k X Y h b => h.keep b (by omega)) (fun c X Y h b => ⟨h.1, h.2.1.keep b (by omega), h.2.2.trans (b.mono (by omega))⟩) i1 ?round ?done ?stop
  case round =>
    clear cf cx cn i1 hK K Q'
    intro l k X hl hlX I hg
    gi_wp2
    refine ⟨(RG.Above.refl _ _).alloc _, fun o => ?_⟩
    have T := SI.tm f0 f1 x0 x1 hn (k + 1)
    have S := SI.sum_bd f0 f1 x0 x1 hn k
    have T0 := (SI.tm f0 f1 x0 x1 hn k).u0
    have on := fun s => SI.still_on hn I.st hg T0 s
    have stop := fun s => SI.still_stop I.st hg T0 s
    have k20 := I.st.1
    have b9 : Box ((X.alloc (.cells #[.int .i64 (SI.dd first x n0 (k + 1)), .int .i64 (SI.uu first x n0 (k + 1))] 26)).putObj l o) X.heap.size (SI.dd first x n0 (k + 1)) (SI.uu first x n0 (k + 1)) := by
      have n9 := Box.new X (SI.dd first x n0 (k + 1)) (SI.uu first x n0 (k + 1)) 26
      have e : ((X.alloc (.cells #[.int .i64 (SI.dd first x n0 (k + 1)), .int .i64 (SI.uu first x n0 (k + 1))] 26)).putObj l o).heap[X.heap.size]? = (X.alloc (.cells #[.int .i64 (SI.dd first x n0 (k + 1)), .int .i64 (SI.uu first x n0 (k + 1))] 26)).heap[X.heap.size]? := World.putObj_heap_other (by omega)
      exact ⟨(World.cell?_of_block e).trans n9.c0, (World.cell?_of_block e).trans n9.c1, (World.frozen?_of_block e).trans n9.f0, (World.frozen?_of_block e).trans n9.f1⟩
    have I2 : RowI w first x n0 k ((X.alloc (.cells #[.int .i64 (SI.dd first x n0 (k + 1)), .int .i64 (SI.uu first x n0 (k + 1))] 26)).putObj l o) := I.keep (B := W0.heap.size) (((below_new X _).mono (by omega)).trans (RG.below_put _ hl)) (by omega)
    have hsz : X.heap.size < ((X.alloc (.cells #[.int .i64 (SI.dd first x n0 (k + 1)), .int .i64 (SI.uu first x n0 (k + 1))] 26)).putObj l o).heap.size := by simp
    generalize (X.alloc (.cells #[.int .i64 (SI.dd first x n0 (k + 1)), .int .i64 (SI.uu first x n0 (k + 1))] 26)).putObj l o = Y at *
    clear I T0 hlX hl hg
    obtain ⟨d0, d1, u0, u1⟩ := T
    obtain ⟨S1, S2, S3, S4⟩ := S
    have nl : Hide (SI.ll first x n0 (k + 1) = match SI.les k with | true => SI.ll first x n0 k - SI.uu first x n0 (k + 1) | false => SI.ll first x n0 k + SI.dd first x n0 (k + 1)) := ⟨rfl⟩
    have nh : Hide (SI.hh first x n0 (k + 1) = match SI.les k with | true => SI.hh first x n0 k - SI.dd first x n0 (k + 1) | false => SI.hh first x n0 k + SI.uu first x n0 (k + 1)) := ⟨rfl⟩
    have ne : Hide (SI.les (k + 1) = !SI.les k) := ⟨rfl⟩
    obtain ⟨an, sm, aw, af, _, be⟩ := I2
    generalize SI.dd first x n0 (k + 1) = d at *
    generalize SI.uu first x n0 (k + 1) = u at *
    generalize SI.ll first x n0 k = L at *
    generalize SI.hh first x n0 k = H at *
    have pl : ∀ tl th Z, -30000000000 ≤ tl → tl ≤ 30000000000 → -30000000000 ≤ th → th ≤ 30000000000 → Calls Tryd.prog 65 #[spV L H, spV tl th] Z fun e w' => e = .returned (spV (L + tl) (H + th)) ∧ Below Z.heap.size Z w' := fun tl th Z a b c d => (plus_eq L H tl th Z (by omega) (by omega) (by omega) (by omega) a b c d).mono fun _ _ ⟨h1, h2⟩ => ⟨h1, h2 ▸ below1 (below_new2 Z _ _) (below_new _ _)⟩
    have ab : ∀ Z, Calls Tryd.prog 31 #[spV d u] Z fun e w' => e = .returned (spV (-u) (-d)) ∧ Below Z.heap.size Z w' := fun Z => (about_eq d u Z (by omega) (by omega) (by omega) (by omega)).mono fun _ _ ⟨h1, h2⟩ => ⟨h1, h2 ▸ below_new2 Z _ _⟩
    have n6 : 1 ≤ 8 - 1 - 1 := by omega
    by_cases sp : u = 1 ∧ d = 0
    · have R := stop sp
      obtain ⟨rfl, rfl⟩ := sp
      obtain ⟨z0, z1, z2, z3⟩ := b9
      obtain ⟨s0, s1, s2, s3⟩ := sm
      clear on stop nl nh ne
      rw [R]
      gi_wp2_with (refine ⟨trivial, ?_⟩; gi_at_call 65; refine (CallsIn.inRound l (callsIn_wide.2 (pl (-1) 1 _ (by omega) (by omega) (by omega) (by omega)))).mono ?_; rintro e V ⟨rfl, B⟩; obtain ⟨a0, a1, a2, a3⟩ := an.kept B)
      exact ⟨(((RG.Above.refl _ _).below B (Nat.le_refl _)).setCell (by simp only []; omega) _).setCell (by simp only []; omega) _, rfl, (an.kept B).set (L + -1) (H + 1), ((be.trans (B.mono be.size)).setCell (Nat.le_refl _) _).setCell (Nat.le_refl _) _⟩
    · have st := on sp
      have C0 := b9
      obtain ⟨z0, z1, z2, z3⟩ := b9
      obtain ⟨s0, s1, s2, s3⟩ := sm
      clear on stop
      have sm : Box Y (w.heap.size + 1) L H := ⟨s0, s1, s2, s3⟩
      rcases (show ¬ d = 0 ∨ (d = 0 ∧ ¬ u = 1) by omega) with hd | ⟨rfl, hu⟩
      all_goals clear sp
      all_goals cases hl : SI.les k
      all_goals rw [hl] at nl nh ne aw
      · gi_wp2_with fail
        refine ⟨trivial, ?_⟩
        refine (CallsIn.inRound l (callsIn_wide.2 (pl _ _ _ (by omega) (by omega) (by omega) (by omega)))).mono ?_
        rintro e V ⟨rfl, B⟩
        have A := sm.kept B
        have A2 := A
        obtain ⟨a0, a1, a2, a3⟩ := A
        have aw2 := (B.cell (cell_lt aw)).trans aw
        have af2 := (B.frozen (p := ⟨w.heap.size + 1 + 1, 0, none⟩) (cell_lt aw)).trans af
        clear s0 s1 s2 s3 z0 z1 z2 z3
        gi_wp2
        exact RowI.next an A2 aw2 af2 B be st (nl.out.trans (by omega)) (nh.out.trans (by omega)) ne.out (by omega)
      · have hm : Tryd.prog.follows .mixedOrders = true := by kernel_rfl
        have Bt : Below Y.heap.size Y Y.drew := (Below.refl _ _).drew
        have awk : ∀ V, Below Y.heap.size Y V → V.cell? ⟨w.heap.size + 1 + 1, 0, none⟩ = some (.bool true) := fun V b => (b.cell (cell_lt aw)).trans aw
        have afk : ∀ V, Below Y.heap.size Y V → V.frozen? ⟨w.heap.size + 1 + 1, 0, none⟩ = false := fun V b => (b.frozen (p := ⟨w.heap.size + 1 + 1, 0, none⟩) (cell_lt aw)).trans af
        have awk2 : ∀ (V : World) a b, V.cell? ⟨w.heap.size + 1 + 1, 0, none⟩ = some (.bool true) → ((V.setCell ⟨w.heap.size + 1, 0, none⟩ a).setCell ⟨w.heap.size + 1, 1, none⟩ b).cell? ⟨w.heap.size + 1 + 1, 0, none⟩ = some (.bool true) := fun V a b h => (World.cell?_of_block (a := ⟨w.heap.size + 1 + 1, 0, none⟩) ((Below.heap_setCell _ _ _ _ (by simp only []; omega)).trans (Below.heap_setCell _ _ _ _ (by simp only []; omega)))).trans h
        have afk2 : ∀ (V : World) a b, V.frozen? ⟨w.heap.size + 1 + 1, 0, none⟩ = false → ((V.setCell ⟨w.heap.size + 1, 0, none⟩ a).setCell ⟨w.heap.size + 1, 1, none⟩ b).frozen? ⟨w.heap.size + 1 + 1, 0, none⟩ = false := fun V a b h => (World.frozen?_of_block (a := ⟨w.heap.size + 1 + 1, 0, none⟩) ((Below.heap_setCell _ _ _ _ (by simp only []; omega)).trans (Below.heap_setCell _ _ _ _ (by simp only []; omega)))).trans h
        gi_wp2_with fail
        refine wpIn_region_any hm ?_
        change wpAnyIn _ _ _ _ _ _ _ _ _ (World.drew _)
        replace sm := sm.kept Bt
        replace C0 := C0.kept Bt
        clear s0 s1 s2 s3 z0 z1 z2 z3 aw af
        generalize Y.drew = Yd at *
        refine wpAnyIn_ready (rs := [0, 1]) (by kernel_rfl) (by simp) ?_
        refine AllReadyIn.cons rfl (fun K hK => ?_) ?_
        · have ⟨s0, s1, s2, s3⟩ := sm
          have ⟨z0, z1, z2, z3⟩ := C0
          go_simp
          refine hK _ _ ?_
          clear hK K s0 s1 s2 s3 z0 z1 z2 z3
          refine wpAnyIn_ready (rs := [1]) (by kernel_rfl) (by simp) ?_
          refine AllReadyIn.cons rfl (fun K hK => ?_) ?_
          · have ⟨s0, s1, s2, s3⟩ := sm
            have ⟨z0, z1, z2, z3⟩ := C0
            go_simp
            refine hK _ _ ?_
            clear hK K s0 s1 s2 s3 z0 z1 z2 z3
            refine wpAnyIn_ready (rs := [2]) (by kernel_rfl) (by simp) ?_
            refine AllReadyIn.cons rfl (fun K hK => ?_) ?_
            · go_simp
              refine ⟨trivial, ?_⟩
              refine (CallsIn.inRound l (callsIn_wide.2 (ab _))).mono ?_
              rintro e V2 ⟨rfl, B2⟩
              replace sm := sm.kept B2
              replace C0 := C0.kept B2
              replace Bt := below1 Bt B2
              refine hK _ _ ?_
              clear hK K B2
              refine wpAnyIn_ready (rs := [3]) (by kernel_rfl) (by simp) ?_
              refine AllReadyIn.cons rfl (fun K hK => ?_) ?_
              · go_simp
                refine ⟨trivial, ?_⟩
                refine (CallsIn.inRound l (callsIn_wide.2 (pl _ _ _ (by omega) (by omega) (by omega) (by omega)))).mono ?_
                rintro e V3 ⟨rfl, B3⟩
                replace sm := sm.kept B3
                replace C0 := C0.kept B3
                replace Bt := below1 Bt B3
                refine hK _ _ ?_
                clear hK K B3
                refine wpAnyIn_ready (rs := [4]) (by kernel_rfl) (by simp) ?_
                refine AllReadyIn.cons rfl (fun K hK => ?_) ?_
                · have ⟨s0, s1, s2, s3⟩ := sm
                  go_simp
                  refine hK _ _ ?_
                  clear hK K s0 s1 s2 s3
                  refine wpAnyIn_done (by kernel_rfl) ?_ _
                  have aw3 : _ := awk _ Bt
                  have af3 : _ := afk _ Bt
                  have aw2 := fun a b => awk2 _ a b aw3
                  have af2 := fun a b => afk2 _ a b af3
                  gi_wp2
                  exact RowI.next an sm aw3 af3 Bt be st (nl.out.trans (by omega)) (nh.out.trans (by omega)) ne.out (by omega)
                exact AllReadyIn.nil
              exact AllReadyIn.nil
            exact AllReadyIn.nil
          exact AllReadyIn.nil
        refine AllReadyIn.cons rfl (fun K hK => ?_) ?_
        · have ⟨s0, s1, s2, s3⟩ := sm
          have ⟨z0, z1, z2, z3⟩ := C0
          go_simp
          refine hK _ _ ?_
          clear hK K s0 s1 s2 s3 z0 z1 z2 z3
          refine wpAnyIn_ready (rs := [0, 2]) (by kernel_rfl) (by simp) ?_
          refine AllReadyIn.cons rfl (fun K hK => ?_) ?_
          · have ⟨s0, s1, s2, s3⟩ := sm
            have ⟨z0, z1, z2, z3⟩ := C0
            go_simp
            refine hK _ _ ?_
            clear hK K s0 s1 s2 s3 z0 z1 z2 z3
            refine wpAnyIn_ready (rs := [2]) (by kernel_rfl) (by simp) ?_
            refine AllReadyIn.cons rfl (fun K hK => ?_) ?_
            · go_simp
              refine ⟨trivial, ?_⟩
              refine (CallsIn.inRound l (callsIn_wide.2 (ab _))).mono ?_
              rintro e V2 ⟨rfl, B2⟩
              replace sm := sm.kept B2
              replace C0 := C0.kept B2
              replace Bt := below1 Bt B2
              refine hK _ _ ?_
              clear hK K B2
              refine wpAnyIn_ready (rs := [3]) (by kernel_rfl) (by simp) ?_
              refine AllReadyIn.cons rfl (fun K hK => ?_) ?_
              · go_simp
                refine ⟨trivial, ?_⟩
                refine (CallsIn.inRound l (callsIn_wide.2 (pl _ _ _ (by omega) (by omega) (by omega) (by omega)))).mono ?_
                rintro e V3 ⟨rfl, B3⟩
                replace sm := sm.kept B3
                replace C0 := C0.kept B3
                replace Bt := below1 Bt B3
                refine hK _ _ ?_
                clear hK K B3
                refine wpAnyIn_ready (rs := [4]) (by kernel_rfl) (by simp) ?_
                refine AllReadyIn.cons rfl (fun K hK => ?_) ?_
                · have ⟨s0, s1, s2, s3⟩ := sm
                  go_simp
                  refine hK _ _ ?_
                  clear hK K s0 s1 s2 s3
                  refine wpAnyIn_done (by kernel_rfl) ?_ _
                  have aw3 : _ := awk _ Bt
                  have af3 : _ := afk _ Bt
                  have aw2 := fun a b => awk2 _ a b aw3
                  have af2 := fun a b => afk2 _ a b af3
                  gi_wp2
                  exact RowI.next an sm aw3 af3 Bt be st (nl.out.trans (by omega)) (nh.out.trans (by omega)) ne.out (by omega)
                exact AllReadyIn.nil
              exact AllReadyIn.nil
            exact AllReadyIn.nil
          refine AllReadyIn.cons rfl (fun K hK => ?_) ?_
          · go_simp
            refine ⟨trivial, ?_⟩
            refine (CallsIn.inRound l (callsIn_wide.2 (ab _))).mono ?_
            rintro e V2 ⟨rfl, B2⟩
            replace sm := sm.kept B2
            replace C0 := C0.kept B2
            replace Bt := below1 Bt B2
            refine hK _ _ ?_
            clear hK K B2
            refine wpAnyIn_ready (rs := [0]) (by kernel_rfl) (by simp) ?_
            refine AllReadyIn.cons rfl (fun K hK => ?_) ?_
            · have ⟨s0, s1, s2, s3⟩ := sm
              have ⟨z0, z1, z2, z3⟩ := C0
              go_simp
              refine hK _ _ ?_
              clear hK K s0 s1 s2 s3 z0 z1 z2 z3
              refine wpAnyIn_ready (rs := [3]) (by kernel_rfl) (by simp) ?_
              refine AllReadyIn.cons rfl (fun K hK => ?_) ?_
              · go_simp
                refine ⟨trivial, ?_⟩
                refine (CallsIn.inRound l (callsIn_wide.2 (pl _ _ _ (by omega) (by omega) (by omega) (by omega)))).mono ?_
                rintro e V3 ⟨rfl, B3⟩
                replace sm := sm.kept B3
                replace C0 := C0.kept B3
                replace Bt := below1 Bt B3
                refine hK _ _ ?_
                clear hK K B3
                refine wpAnyIn_ready (rs := [4]) (by kernel_rfl) (by simp) ?_
                refine AllReadyIn.cons rfl (fun K hK => ?_) ?_
                · have ⟨s0, s1, s2, s3⟩ := sm
                  go_simp
                  refine hK _ _ ?_
                  clear hK K s0 s1 s2 s3
                  refine wpAnyIn_done (by kernel_rfl) ?_ _
                  have aw3 : _ := awk _ Bt
                  have af3 : _ := afk _ Bt
                  have aw2 := fun a b => awk2 _ a b aw3
                  have af2 := fun a b => afk2 _ a b af3
                  gi_wp2
                  exact RowI.next an sm aw3 af3 Bt be st (nl.out.trans (by omega)) (nh.out.trans (by omega)) ne.out (by omega)
                exact AllReadyIn.nil
              exact AllReadyIn.nil
            exact AllReadyIn.nil
          exact AllReadyIn.nil
        exact AllReadyIn.nil
      · gi_wp2_with fail
        refine ⟨trivial, ?_⟩
        refine (CallsIn.inRound l (callsIn_wide.2 (pl _ _ _ (by omega) (by omega) (by omega) (by omega)))).mono ?_
        rintro e V ⟨rfl, B⟩
        have A := sm.kept B
        have A2 := A
        obtain ⟨a0, a1, a2, a3⟩ := A
        have aw2 := (B.cell (cell_lt aw)).trans aw
        have af2 := (B.frozen (p := ⟨w.heap.size + 1 + 1, 0, none⟩) (cell_lt aw)).trans af
        clear s0 s1 s2 s3 z0 z1 z2 z3
        gi_wp2
        exact RowI.next an A2 aw2 af2 B be st (nl.out.trans (by omega)) (nh.out.trans (by omega)) ne.out (by omega)
      · have hm : Tryd.prog.follows .mixedOrders = true := by kernel_rfl
        have Bt : Below Y.heap.size Y Y.drew := (Below.refl _ _).drew
        have awk : ∀ V, Below Y.heap.size Y V → V.cell? ⟨w.heap.size + 1 + 1, 0, none⟩ = some (.bool true) := fun V b => (b.cell (cell_lt aw)).trans aw
        have afk : ∀ V, Below Y.heap.size Y V → V.frozen? ⟨w.heap.size + 1 + 1, 0, none⟩ = false := fun V b => (b.frozen (p := ⟨w.heap.size + 1 + 1, 0, none⟩) (cell_lt aw)).trans af
        have awk2 : ∀ (V : World) a b, V.cell? ⟨w.heap.size + 1 + 1, 0, none⟩ = some (.bool true) → ((V.setCell ⟨w.heap.size + 1, 0, none⟩ a).setCell ⟨w.heap.size + 1, 1, none⟩ b).cell? ⟨w.heap.size + 1 + 1, 0, none⟩ = some (.bool true) := fun V a b h => (World.cell?_of_block (a := ⟨w.heap.size + 1 + 1, 0, none⟩) ((Below.heap_setCell _ _ _ _ (by simp only []; omega)).trans (Below.heap_setCell _ _ _ _ (by simp only []; omega)))).trans h
        have afk2 : ∀ (V : World) a b, V.frozen? ⟨w.heap.size + 1 + 1, 0, none⟩ = false → ((V.setCell ⟨w.heap.size + 1, 0, none⟩ a).setCell ⟨w.heap.size + 1, 1, none⟩ b).frozen? ⟨w.heap.size + 1 + 1, 0, none⟩ = false := fun V a b h => (World.frozen?_of_block (a := ⟨w.heap.size + 1 + 1, 0, none⟩) ((Below.heap_setCell _ _ _ _ (by simp only []; omega)).trans (Below.heap_setCell _ _ _ _ (by simp only []; omega)))).trans h
        gi_wp2_with fail
        refine wpIn_region_any hm ?_
        change wpAnyIn _ _ _ _ _ _ _ _ _ (World.drew _)
        replace sm := sm.kept Bt
        replace C0 := C0.kept Bt
        clear s0 s1 s2 s3 z0 z1 z2 z3 aw af
        generalize Y.drew = Yd at *
        refine wpAnyIn_ready (rs := [0, 1]) (by kernel_rfl) (by simp) ?_
        refine AllReadyIn.cons rfl (fun K hK => ?_) ?_
        · have ⟨s0, s1, s2, s3⟩ := sm
          have ⟨z0, z1, z2, z3⟩ := C0
          go_simp
          refine hK _ _ ?_
          clear hK K s0 s1 s2 s3 z0 z1 z2 z3
          refine wpAnyIn_ready (rs := [1]) (by kernel_rfl) (by simp) ?_
          refine AllReadyIn.cons rfl (fun K hK => ?_) ?_
          · have ⟨s0, s1, s2, s3⟩ := sm
            have ⟨z0, z1, z2, z3⟩ := C0
            go_simp
            refine hK _ _ ?_
            clear hK K s0 s1 s2 s3 z0 z1 z2 z3
            refine wpAnyIn_ready (rs := [2]) (by kernel_rfl) (by simp) ?_
            refine AllReadyIn.cons rfl (fun K hK => ?_) ?_
            · go_simp
              refine ⟨trivial, ?_⟩
              refine (CallsIn.inRound l (callsIn_wide.2 (ab _))).mono ?_
              rintro e V2 ⟨rfl, B2⟩
              replace sm := sm.kept B2
              replace C0 := C0.kept B2
              replace Bt := below1 Bt B2
              refine hK _ _ ?_
              clear hK K B2
              refine wpAnyIn_ready (rs := [3]) (by kernel_rfl) (by simp) ?_
              refine AllReadyIn.cons rfl (fun K hK => ?_) ?_
              · go_simp
                refine ⟨trivial, ?_⟩
                refine (CallsIn.inRound l (callsIn_wide.2 (pl _ _ _ (by omega) (by omega) (by omega) (by omega)))).mono ?_
                rintro e V3 ⟨rfl, B3⟩
                replace sm := sm.kept B3
                replace C0 := C0.kept B3
                replace Bt := below1 Bt B3
                refine hK _ _ ?_
                clear hK K B3
                refine wpAnyIn_ready (rs := [4]) (by kernel_rfl) (by simp) ?_
                refine AllReadyIn.cons rfl (fun K hK => ?_) ?_
                · have ⟨s0, s1, s2, s3⟩ := sm
                  go_simp
                  refine hK _ _ ?_
                  clear hK K s0 s1 s2 s3
                  refine wpAnyIn_done (by kernel_rfl) ?_ _
                  have aw3 : _ := awk _ Bt
                  have af3 : _ := afk _ Bt
                  have aw2 := fun a b => awk2 _ a b aw3
                  have af2 := fun a b => afk2 _ a b af3
                  gi_wp2
                  exact RowI.next an sm aw3 af3 Bt be st (nl.out.trans (by omega)) (nh.out.trans (by omega)) ne.out (by omega)
                exact AllReadyIn.nil
              exact AllReadyIn.nil
            exact AllReadyIn.nil
          exact AllReadyIn.nil
        refine AllReadyIn.cons rfl (fun K hK => ?_) ?_
        · have ⟨s0, s1, s2, s3⟩ := sm
          have ⟨z0, z1, z2, z3⟩ := C0
          go_simp
          refine hK _ _ ?_
          clear hK K s0 s1 s2 s3 z0 z1 z2 z3
          refine wpAnyIn_ready (rs := [0, 2]) (by kernel_rfl) (by simp) ?_
          refine AllReadyIn.cons rfl (fun K hK => ?_) ?_
          · have ⟨s0, s1, s2, s3⟩ := sm
            have ⟨z0, z1, z2, z3⟩ := C0
            go_simp
            refine hK _ _ ?_
            clear hK K s0 s1 s2 s3 z0 z1 z2 z3
            refine wpAnyIn_ready (rs := [2]) (by kernel_rfl) (by simp) ?_
            refine AllReadyIn.cons rfl (fun K hK => ?_) ?_
            · go_simp
              refine ⟨trivial, ?_⟩
              refine (CallsIn.inRound l (callsIn_wide.2 (ab _))).mono ?_
              rintro e V2 ⟨rfl, B2⟩
              replace sm := sm.kept B2
              replace C0 := C0.kept B2
              replace Bt := below1 Bt B2
              refine hK _ _ ?_
              clear hK K B2
              refine wpAnyIn_ready (rs := [3]) (by kernel_rfl) (by simp) ?_
              refine AllReadyIn.cons rfl (fun K hK => ?_) ?_
              · go_simp
                refine ⟨trivial, ?_⟩
                refine (CallsIn.inRound l (callsIn_wide.2 (pl _ _ _ (by omega) (by omega) (by omega) (by omega)))).mono ?_
                rintro e V3 ⟨rfl, B3⟩
                replace sm := sm.kept B3
                replace C0 := C0.kept B3
                replace Bt := below1 Bt B3
                refine hK _ _ ?_
                clear hK K B3
                refine wpAnyIn_ready (rs := [4]) (by kernel_rfl) (by simp) ?_
                refine AllReadyIn.cons rfl (fun K hK => ?_) ?_
                · have ⟨s0, s1, s2, s3⟩ := sm
                  go_simp
                  refine hK _ _ ?_
                  clear hK K s0 s1 s2 s3
                  refine wpAnyIn_done (by kernel_rfl) ?_ _
                  have aw3 : _ := awk _ Bt
                  have af3 : _ := afk _ Bt
                  have aw2 := fun a b => awk2 _ a b aw3
                  have af2 := fun a b => afk2 _ a b af3
                  gi_wp2
                  exact RowI.next an sm aw3 af3 Bt be st (nl.out.trans (by omega)) (nh.out.trans (by omega)) ne.out (by omega)
                exact AllReadyIn.nil
              exact AllReadyIn.nil
            exact AllReadyIn.nil
          refine AllReadyIn.cons rfl (fun K hK => ?_) ?_
          · go_simp
            refine ⟨trivial, ?_⟩
            refine (CallsIn.inRound l (callsIn_wide.2 (ab _))).mono ?_
            rintro e V2 ⟨rfl, B2⟩
            replace sm := sm.kept B2
            replace C0 := C0.kept B2
            replace Bt := below1 Bt B2
            refine hK _ _ ?_
            clear hK K B2
            refine wpAnyIn_ready (rs := [0]) (by kernel_rfl) (by simp) ?_
            refine AllReadyIn.cons rfl (fun K hK => ?_) ?_
            · have ⟨s0, s1, s2, s3⟩ := sm
              have ⟨z0, z1, z2, z3⟩ := C0
              go_simp
              refine hK _ _ ?_
              clear hK K s0 s1 s2 s3 z0 z1 z2 z3
              refine wpAnyIn_ready (rs := [3]) (by kernel_rfl) (by simp) ?_
              refine AllReadyIn.cons rfl (fun K hK => ?_) ?_
              · go_simp
                refine ⟨trivial, ?_⟩
                refine (CallsIn.inRound l (callsIn_wide.2 (pl _ _ _ (by omega) (by omega) (by omega) (by omega)))).mono ?_
                rintro e V3 ⟨rfl, B3⟩
                replace sm := sm.kept B3
                replace C0 := C0.kept B3
                replace Bt := below1 Bt B3
                refine hK _ _ ?_
                clear hK K B3
                refine wpAnyIn_ready (rs := [4]) (by kernel_rfl) (by simp) ?_
                refine AllReadyIn.cons rfl (fun K hK => ?_) ?_
                · have ⟨s0, s1, s2, s3⟩ := sm
                  go_simp
                  refine hK _ _ ?_
                  clear hK K s0 s1 s2 s3
                  refine wpAnyIn_done (by kernel_rfl) ?_ _
                  have aw3 : _ := awk _ Bt
                  have af3 : _ := afk _ Bt
                  have aw2 := fun a b => awk2 _ a b aw3
                  have af2 := fun a b => afk2 _ a b af3
                  gi_wp2
                  exact RowI.next an sm aw3 af3 Bt be st (nl.out.trans (by omega)) (nh.out.trans (by omega)) ne.out (by omega)
                exact AllReadyIn.nil
              exact AllReadyIn.nil
            exact AllReadyIn.nil
          exact AllReadyIn.nil
        exact AllReadyIn.nil
  case done =>
    intro D k X hD hk I hd
    have E := SI.still_end I.st hk
    have szD : w.heap.size + 6 ≤ D := by omega
    have an := I.ans
    obtain ⟨⟨a0, a1, a2, a3⟩, ⟨s0, s1, s2, s3⟩, _, _, _, B⟩ := I
    generalize SI.ll first x n0 k = L at *
    generalize SI.hh first x n0 k = H at *
    gi_wp2
    have A := an.set L H
    have B2 := (B.setCell (p := ⟨w.heap.size, 0, none⟩) (Nat.le_refl _) (.int .i64 L)).setCell (p := ⟨w.heap.size, 1, none⟩) (Nat.le_refl _) (.int .i64 H)
    have hd2 : ((X.setCell ⟨w.heap.size, 0, none⟩ (.int .i64 L)).setCell ⟨w.heap.size, 1, none⟩ (.int .i64 H)).heap[D]? = some (.deferred (some [])) := ((Below.heap_setCell _ _ _ _ (by simp only []; omega)).trans (Below.heap_setCell _ _ _ _ (by simp only []; omega))).trans hd
    generalize (X.setCell ⟨w.heap.size, 0, none⟩ (.int .i64 L)).setCell ⟨w.heap.size, 1, none⟩ (.int .i64 H) = V at *
    refine ⟨by simp, .inl ⟨_, _, rfl, run_takeDeferred hd2, ?_⟩⟩
    have P := RG.below_put (X := V) (.deferred none) szD
    obtain ⟨q0, q1, q2, q3⟩ := A.keep P (by omega)
    have B3 := B2.trans (P.mono (by omega))
    generalize V.putObj D (.deferred none) = V2 at *
    exact ⟨.agg #[.int .i64 L, .int .i64 H], by simp [results, Tryd.results61, go_sem, q0, q1], by rw [E], B3⟩
  case stop =>
    rintro D c X hD ⟨rfl, A, B⟩ hd
    have szD : w.heap.size + 6 ≤ D := by omega
    obtain ⟨R, hR⟩ : ∃ R, SI.row 21 first first first first true x n0 = R := ⟨_, rfl⟩
    rw [hR] at A
    have hR' : Hide (SI.row 21 first first first first true x n0 = R) := ⟨hR⟩
    clear hR
    gi_wp2
    refine ⟨by simp, .inl ⟨_, _, rfl, run_takeDeferred hd, ?_⟩⟩
    have P := RG.below_put (X := X) (.deferred none) szD
    obtain ⟨q0, q1, q2, q3⟩ := A.keep P (by omega)
    have B3 := B.trans (P.mono (by omega))
    generalize X.putObj D (.deferred none) = V2 at *
    exact ⟨.agg #[.int .i64 R.1, .int .i64 R.2], by simp [results, Tryd.results61, go_sem, q0, q1], by rw [hR'.out], B3⟩
end SK
end Go.Proofs.YtiidbbnclhknpaaDoor
