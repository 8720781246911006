/-
  The text of an angle read, by the program: what its AngRead answers.
-/
import Derived.Test.YtlhkedollclfiagRows
import Derived.Test.YtlhkedollclfiagLooseMath
import Derived.Test.YtlhkedollclfiagAngImpl
import Derived.Test.YtlhkedollclfiagAngTextImpl
import Derived.Test.YtlhkedollclfiagAngReadWalks
import Derived.Laws.RangeAny
import Derived.WalkKit
import Derived.Below
import Derived.LoopTactic
namespace Go.Proofs.Ytlhkedollclfiag
open Go.RowKit Go.Joins
set_option linter.unusedVariables false
namespace AW
open AM AT
theorem next_gen (w : World) (s : ByteArray) (pos : Nat) (h : pos < s.size) : ∃ r n : Nat, 1 ≤ n ∧ r ≤ 2147483647 ∧ ∀ ty, (Instr.next (.pointer (some ⟨w.heap.size, 0, none⟩)) true ty).run Try.prog (w.iter s pos) = .ok (.tuple #[.bool true, .int .i64 pos, .int .i32 r]) (w.iter s (pos + n)) := by
  refine ⟨(Utf8.decode s pos).1, (Utf8.decode s pos).2, ?_, decode_le s pos, fun ty => run_next_any w s pos ty h⟩
  by_cases ha : (s[pos]'h).toNat < 128
  · rw [decode_ascii s pos h ha]
    exact Nat.le_refl _
  · exact (decode_high s pos h (by omega)).2
abbrev W0 (w : World) : World := w.alloc (.cells #[.bool false, .int .i64 0, .int .i64 0, .int .i64 0, .int .i64 0] 42)
theorem iter_below (w : World) (s : ByteArray) (p : Nat) : Below w.heap.size w ((W0 w).iter s p) := below1 (below_new _ _) (below_new _ _)
theorem W0_size (w : World) : (W0 w).heap.size = w.heap.size + 1 := by simp
theorem next_gen' (w : World) (s : ByteArray) (pos : Nat) (h : pos < s.size) : ∃ r n : Nat, 1 ≤ n ∧ r ≤ 2147483647 ∧ ∀ ty, (Instr.next (.pointer (some ⟨w.heap.size + 1, 0, none⟩)) true ty).run Try.prog ((W0 w).iter s pos) = .ok (.tuple #[.bool true, .int .i64 pos, .int .i32 r]) ((W0 w).iter s (pos + n)) := by
  have := next_gen (W0 w) s pos h
  rwa [W0_size] at this
theorem next_low (w : World) (s : ByteArray) (pos : Nat) (h : pos < s.size) (ha : (s[pos]'h).toNat < 128) : ∀ ty, (Instr.next (.pointer (some ⟨w.heap.size + 1, 0, none⟩)) true ty).run Try.prog ((W0 w).iter s pos) = .ok (.tuple #[.bool true, .int .i64 pos, .int .i32 (s[pos]'h).toNat]) ((W0 w).iter s (pos + 1)) := by
  have := fun ty => run_next_ascii (P := Try.prog) (W0 w) s pos ty h ha
  rwa [W0_size] at this
theorem next_end (w : World) (s : ByteArray) (pos : Nat) (h : ¬ pos < s.size) : ∀ ty, (Instr.next (.pointer (some ⟨w.heap.size + 1, 0, none⟩)) true ty).run Try.prog ((W0 w).iter s pos) = .ok (.tuple #[.bool false]) ((W0 w).iter s pos) := by
  have := fun ty => run_next_end (P := Try.prog) (W0 w) s pos ty h
  rwa [W0_size] at this
theorem pos_iter (w : World) (s : ByteArray) (p : Nat) : ((W0 w).iter s p).iterPos (w.heap.size + 1) = p := by
  have := World.iterPos_iter (W0 w) s p
  rwa [W0_size] at this
theorem five_iter (w : World) (s : ByteArray) (p : Nat) : Five ((W0 w).iter s p) w.heap.size false 0 0 0 0 := (Five.new w false 0 0 0 0 42).kept (below_new _ _)
theorem fz_iter (w : World) (s : ByteArray) (p o : Nat) : ((W0 w).iter s p).frozen? ⟨w.heap.size, o, none⟩ = false := five_fz (below_new _ _) o
set_option maxHeartbeats 4000000 in
theorem loose_gen (s : ByteArray) (w : World) :
    Calls Try.prog 22 #[.string s] w fun e w' => (∃ (l : Bool) (d m s h : Int), e = .returned (angV l d m s h)) ∧ Below w.heap.size w w' := by
  go_enter Try.func22, Try.ntmps22
  go_wp2_with fail
  go_loopw [3, 4] (fun s3 s4 w' => ∃ (pos : Nat) (l : Bool) (x : Int), s3 = .bool l ∧ s4 = .int .i64 x ∧ w' = (W0 w).iter s pos) (fun _ _ w' => s.size - w'.iterPos (w.heap.size + 1))
  case atStart => exact ⟨0, false, 0, rfl, rfl, rfl⟩
  case round =>
    obtain ⟨pos, l, x, rfl, rfl, rfl⟩ := hrel
    by_cases hp : pos < s.size
    · obtain ⟨r, n, n1, r1, hnx⟩ := next_gen' w s pos hp
      have hn : n ≠ 0 := by omega
      have HP := Hide.mk (pos_iter w s pos)
      have HQ := Hide.mk (pos_iter w s (pos + n))
      by_cases e1 : r = 45
      · subst e1
        go_wp2
        go_roundw
        case rel => exact ⟨_, _, _, rfl, rfl, rfl⟩
        case measure => rw [HP.out, HQ.out]; omega
      · have e1' : ((r : Int) == 45) = false := by simp; omega
        by_cases e2 : (48 : Int) ≤ r
        · by_cases e3 : (r : Int) ≤ 57
          · go_wp2
            go_roundw
            case rel => exact ⟨_, _, _, rfl, rfl, rfl⟩
            case measure => rw [HP.out, HQ.out]; omega
          · go_wp2
            go_roundw
            case rel => exact ⟨_, _, _, rfl, rfl, rfl⟩
            case measure => rw [HP.out, HQ.out]; omega
        · go_wp2
          go_roundw
          case rel => exact ⟨_, _, _, rfl, rfl, rfl⟩
          case measure => rw [HP.out, HQ.out]; omega
    · have hnx := next_end w s pos hp
      obtain ⟨c0, c1, c2, c3, c4⟩ := five_iter w s pos
      have f0 := fz_iter w s pos 0
      have f1 := fz_iter w s pos 1
      have f2 := fz_iter w s pos 2
      have f3 := fz_iter w s pos 3
      have f4 := fz_iter w s pos 4
      have B := iter_below w s pos
      go_wp2
      refine bodyPost_ret (v := angV l (RowKit.wrap64 (x.tdiv 1000000)) ((RowKit.wrap64 (x.tdiv 10000)).tmod 100) ((RowKit.wrap64 (x.tdiv 100)).tmod 100) (x.tmod 100)) (by simp [results, Try.results22, go_sem, *]) rfl ⟨⟨_, _, _, _, _, rfl⟩, ?_⟩
      exact ((((B.setCell (Nat.le_refl _) _).setCell (Nat.le_refl _) _).setCell (Nat.le_refl _) _).setCell (Nat.le_refl _) _).setCell (Nat.le_refl _) _
theorem pow_step {x d : Int} {p : Nat} (h : x < 10 ^ p) (hd : d ≤ 9) : 10 * x + d < 10 ^ (p + 1) := by
  rw [Int.pow_succ]
  omega
theorem pow_more {x : Int} {p : Nat} (h : x < 10 ^ p) (h0 : 0 ≤ x) : x < 10 ^ (p + 1) := by
  rw [Int.pow_succ]
  omega
theorem pow_max : ∀ {p : Nat}, p ≤ 14 → (10 : Int) ^ p ≤ 100000000000000
  | 0, _ => by decide
  | 1, _ => by decide
  | 2, _ => by decide
  | 3, _ => by decide
  | 4, _ => by decide
  | 5, _ => by decide
  | 6, _ => by decide
  | 7, _ => by decide
  | 8, _ => by decide
  | 9, _ => by decide
  | 10, _ => by decide
  | 11, _ => by decide
  | 12, _ => by decide
  | 13, _ => by decide
  | 14, _ => by decide
  | p + 15, h => by omega
theorem lrun_take {t : List UInt8} {j : Nat} (hj : j < t.length) (i : Ls) : lrun (t.take (j + 1)) i = lstep (lrun (t.take j) i) t[j] := by
  rw [List.take_succ_eq_append_getElem hj, lrun_append]
  rfl
theorem lstep_min (l : Bool) (x : Int) : lstep ⟨l, x⟩ 45 = ⟨true, x⟩ := by simp [lstep]
theorem lstep_dig {l : Bool} {x : Int} {b : UInt8} (h0 : (48 : Int) ≤ b.toNat) (h1 : (b.toNat : Int) ≤ 57) : lstep ⟨l, x⟩ b = ⟨l, 10 * x + ((b.toNat : Int) - 48)⟩ := by
  have e : (b == 45) = false := by
    apply beq_eq_false_iff_ne.2
    rintro rfl
    simp at h0
  unfold lstep
  rw [if_pos (by omega), e]
  simp
set_option maxHeartbeats 4000000 in
theorem loose_low (t : List UInt8) (w : World) (hlow : ∀ b ∈ t, b.toNat < 128) (hl : t.length ≤ 14) :
    Calls Try.prog 22 #[.string ⟨t.toArray⟩] w fun e w' => e = .returned (angV (lrun t ⟨false, 0⟩).less ((lrun t ⟨false, 0⟩).all / 1000000) ((lrun t ⟨false, 0⟩).all / 10000 % 100) ((lrun t ⟨false, 0⟩).all / 100 % 100) ((lrun t ⟨false, 0⟩).all % 100)) ∧ Below w.heap.size w w' := by
  have hsz : (⟨t.toArray⟩ : ByteArray).size = t.length := by simp [ByteArray.size]
  have hget : ∀ (j : Nat) (hj : j < t.length) (hj' : j < (⟨t.toArray⟩ : ByteArray).size), (⟨t.toArray⟩ : ByteArray)[j]'hj' = t[j] := fun j hj hj' => by simp [ByteArray.getElem_eq_getElem_data]
  obtain ⟨s, hs⟩ : ∃ s : ByteArray, s = ⟨t.toArray⟩ := ⟨_, rfl⟩
  rw [← hs] at hsz
  have hget' : ∀ (j : Nat) (hj : j < t.length) (hj' : j < s.size), s[j]'hj' = t[j] := by subst hs; exact hget
  rw [← hs]
  clear hget hs
  go_enter Try.func22, Try.ntmps22
  go_wp2_with fail
  go_loopw [3, 4] (fun s3 s4 w' => ∃ (pos : Nat) (l : Bool) (x : Int), s3 = .bool l ∧ s4 = .int .i64 x ∧ w' = (W0 w).iter s pos ∧ pos ≤ t.length ∧ lrun (t.take pos) ⟨false, 0⟩ = ⟨l, x⟩ ∧ 0 ≤ x ∧ x < 10 ^ pos) (fun _ _ w' => s.size - w'.iterPos (w.heap.size + 1))
  case atStart => exact ⟨0, false, 0, rfl, rfl, rfl, Nat.zero_le _, rfl, by decide, by decide⟩
  case round =>
    obtain ⟨pos, l, x, rfl, rfl, rfl, hpos, hrun, x0, xp⟩ := hrel
    by_cases hp : pos < s.size
    · have hp' : pos < t.length := by omega
      have hnx := next_low w s pos hp (by rw [hget' pos hp' hp]; exact hlow _ (List.getElem_mem _))
      rw [hget' pos hp' hp] at hnx
      have HN := Hide.mk (lrun_take hp' ⟨false, 0⟩)
      have HP := Hide.mk (pos_iter w s pos)
      have HQ := Hide.mk (pos_iter w s (pos + 1))
      have xm : x < 100000000000000 := by have := pow_max (p := pos) (by omega); omega
      have HX := Hide.mk xp
      have HR := Hide.mk hrun
      have hb : t[pos].toNat < 256 := t[pos].toNat_lt
      have HL := Hide.mk hlow
      have HG := Hide.mk hget'
      clear xp hrun hlow hget'
      generalize t[pos] = b at *
      by_cases e1 : b = 45
      · subst e1
        have e1 : ((45 : UInt8).toNat : Int) = 45 := rfl
        go_wp2
        go_roundw
        case rel => exact ⟨pos + 1, true, x, rfl, rfl, rfl, hp', by rw [HN.out, HR.out, lstep_min], x0, pow_more HX.out x0⟩
        case measure => rw [HP.out, HQ.out]; omega
      · have e1' : ((b.toNat : Int) == 45) = false := by
          apply beq_eq_false_iff_ne.2
          intro c
          exact e1 (UInt8.toNat_inj.1 (by have : (45 : UInt8).toNat = 45 := rfl; omega))
        have e4 : (b == 45) = false := beq_eq_false_iff_ne.2 e1
        have E4 := Hide.mk e4
        clear e4 e1
        by_cases e2 : (48 : Int) ≤ b.toNat
        · by_cases e3 : (b.toNat : Int) ≤ 57
          · go_wp2
            go_roundw
            case rel => exact ⟨pos + 1, l, _, rfl, rfl, rfl, hp', by rw [HN.out, HR.out, lstep_dig e2 e3], by omega, pow_step HX.out (by omega)⟩
            case measure => rw [HP.out, HQ.out]; omega
          · go_wp2
            go_roundw
            case rel => exact ⟨pos + 1, l, x, rfl, rfl, rfl, hp', by rw [HN.out, HR.out, lstep_oth (by omega) E4.out], x0, pow_more HX.out x0⟩
            case measure => rw [HP.out, HQ.out]; omega
        · go_wp2
          go_roundw
          case rel => exact ⟨pos + 1, l, x, rfl, rfl, rfl, hp', by rw [HN.out, HR.out, lstep_oth (by omega) E4.out], x0, pow_more HX.out x0⟩
          case measure => rw [HP.out, HQ.out]; omega
    · have hnx := next_end w s pos hp
      have e : t.take pos = t := List.take_of_length_le (by omega)
      rw [e] at hrun
      have HR := Hide.mk hrun
      have xm : x < 1000000000000000 := by have := pow_max (p := pos) (by omega); omega
      obtain ⟨c0, c1, c2, c3, c4⟩ := five_iter w s pos
      have f0 := fz_iter w s pos 0
      have f1 := fz_iter w s pos 1
      have f2 := fz_iter w s pos 2
      have f3 := fz_iter w s pos 3
      have f4 := fz_iter w s pos 4
      have B := iter_below w s pos
      clear hrun e xp hlow hget'
      go_wp2
      refine bodyPost_ret (v := angV l (x / 1000000) (x / 10000 % 100) (x / 100 % 100) (x % 100)) (by simp [results, Try.results22, go_sem, *]) rfl ⟨by rw [HR.out], ?_⟩
      exact ((((B.setCell (Nat.le_refl _) _).setCell (Nat.le_refl _) _).setCell (Nat.le_refl _) _).setCell (Nat.le_refl _) _).setCell (Nat.le_refl _) _
theorem read_yes {t : List UInt8} {a : Int} (h : readO t = some a) : Ending.returned (.tuple #[.int .i64 a, .bool true]) = .returned (.tuple #[.int .i64 (readV t), .bool (readB t)]) := by
  unfold readV readB
  rw [h]
  rfl
theorem read_any (t : List UInt8) (w : World) :
    Calls Try.prog 9 #[.string ⟨t.toArray⟩] w fun e w' => e = .returned (.tuple #[.int .i64 (readV t), .bool (readB t)]) ∧ Below w.heap.size w w' := by
  by_cases hl : t.length ≤ 14
  · cases ho : readO t with
    | none =>
      have N := Hide.mk (read_no ho)
      have C : ∀ a, inT a = true → text a ≠ t := fun a ha e => by
        have := read_text ha
        rw [e, ho] at this
        cases this
      have HC := Hide.mk C
      clear C ho
      have G := fun w => loose_gen ⟨t.toArray⟩ w
      go_enter Try.func9, Try.ntmps9
      go_wp2_with fail
      refine (G _).mono ?_
      rintro e w1 ⟨⟨l, d, m, s, h, rfl⟩, B1⟩
      clear G
      go_wp2_with fail
      refine (of_any l d m s h _).mono ?_
      rintro e w2 ⟨rfl, B2⟩
      replace B1 := below1 B1 B2
      clear B2
      cases hb : ofB l d m s h
      · clear HC
        generalize ofV l d m s h = x at *
        clear hb
        go_wp2
        go_ret2
        exact ⟨N.out, B1⟩
      · have ht := (parts_of hb).1
        have X := fun w => text_any (ofV l d m s h) w
        have e : textV (ofV l d m s h) = text (ofV l d m s h) := by simp [textV, ht]
        rw [e] at X
        have c' : (text (ofV l d m s h) == t) = false := beq_false_of_ne (HC.out _ ht)
        clear HC ht e hb
        generalize ofV l d m s h = x at *
        generalize text x = tx at *
        go_wp2_with fail
        refine (X _).mono ?_
        rintro e w3 ⟨rfl, B3⟩
        replace B1 := below1 B1 B3
        clear B3 X
        go_wp2
        go_ret2
        exact ⟨N.out, B1⟩
    | some a =>
      have Y := Hide.mk (read_yes ho)
      obtain ⟨ha, rfl⟩ := read_some ho
      have L := fun w => loose_low (text a) w (fun b hb => low_text ha hb) hl
      have E := lrun_text ha
      obtain ⟨p1, p2, p3, p4, _, _⟩ := all_parts ha
      rw [E] at L
      simp only [p1, p2, p3, p4] at L
      have O := fun w => of_any (decide (a < 0)) (deg a) (mi a) (se a) (hu a) w
      obtain ⟨o1, o2⟩ := of_parts ha
      rw [o1, o2] at O
      have X := fun w => text_any a w
      have e : textV a = text a := by simp [textV, ha]
      rw [e] at X
      clear ho E p1 p2 p3 p4 o1 o2 e ha
      generalize text a = tx at *
      generalize deg a = x1 at *
      generalize mi a = x2 at *
      generalize se a = x3 at *
      generalize hu a = x4 at *
      generalize decide (a < 0) = l at *
      go_enter Try.func9, Try.ntmps9
      go_wp2_with fail
      refine (L _).mono ?_
      rintro e w1 ⟨rfl, B1⟩
      clear L
      go_wp2_with fail
      refine (O _).mono ?_
      rintro e w2 ⟨rfl, B2⟩
      replace B1 := below1 B1 B2
      clear B2 O
      go_wp2_with fail
      refine (X _).mono ?_
      rintro e w3 ⟨rfl, B3⟩
      replace B1 := below1 B1 B3
      clear B3 X
      go_wp2
      go_ret2
      exact ⟨Y.out, B1⟩
  · have N := Hide.mk (read_no (read_none (t := t) fun a _ e => by have := text_len a; rw [e] at this; omega))
    go_enter Try.func9, Try.ntmps9
    go_wp2
    go_ret2
    exact ⟨N.out, Below.refl _ _⟩
end AW
end Go.Proofs.Ytlhkedollclfiag
