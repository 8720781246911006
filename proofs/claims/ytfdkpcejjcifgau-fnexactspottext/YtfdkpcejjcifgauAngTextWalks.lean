/-
  The text of an angle, by the specification: what its AngText answers.
-/
import Derived.Test.YtfdkpcejjcifgauRows
import Derived.Test.YtfdkpcejjcifgauAngText
import Derived.Test.YtfdkpcejjcifgauTextWalks
import Derived.Test.YtfdkpcejjcifgauAngWalks
import Derived.Test.YtfdkpcejjcifgauKeptStep
import Derived.WalkKit
import Derived.Below
import Derived.Lib.QuietBelow
namespace Go.Proofs.Ytfdkpcejjcifgau
open Go.RowKit Go.Sort
set_option linter.unusedVariables false
namespace AW
open AM AT
theorem nine (a b c d e f g h i : List UInt8) : (⟨a.toArray⟩ : ByteArray) ++ ⟨b.toArray⟩ ++ ⟨c.toArray⟩ ++ ⟨d.toArray⟩ ++ ⟨e.toArray⟩ ++ ⟨f.toArray⟩ ++ ⟨g.toArray⟩ ++ ⟨h.toArray⟩ ++ ⟨i.toArray⟩ = ⟨(a ++ b ++ c ++ d ++ e ++ f ++ g ++ h ++ i).toArray⟩ := by
  simp only [cat]
theorem eight (b c d e f g h i : List UInt8) : (⟨b.toArray⟩ : ByteArray) ++ ⟨c.toArray⟩ ++ ⟨d.toArray⟩ ++ ⟨e.toArray⟩ ++ ⟨f.toArray⟩ ++ ⟨g.toArray⟩ ++ ⟨h.toArray⟩ ++ ⟨i.toArray⟩ = ⟨([] ++ b ++ c ++ d ++ e ++ f ++ g ++ h ++ i).toArray⟩ := by
  simp only [cat, List.nil_append]
theorem sText_yes (a : Int) (w : World) (h : inT a = true) :
    Calls Try.prog 17 #[.int .i64 a] w fun e w' => e = .returned (.string ⟨(text a).toArray⟩) ∧ Below w.heap.size w w' := by
  obtain ⟨⟨d0, d1⟩, ⟨m0, m1⟩, ⟨s0, s1⟩, h0, h1⟩ := parts_in h
  have P := sParts_yes a w h
  have D := @dec_len (deg a)
  have T1 : (two (mi a)).length = 2 := rfl
  have T2 : (two (se a)).length = 2 := rfl
  have T3 : (two (hu a)).length = 2 := rfl
  have E : text a = (if a < 0 then [45] else []) ++ dec (deg a) ++ [100] ++ two (mi a) ++ [109] ++ two (se a) ++ [46] ++ two (hu a) ++ [115] := by
    unfold text body
    by_cases c : a < 0
    · simp [c]
    · simp [c]
  have C1 := fun w => dec_any (deg a) w d0 (by omega)
  have C2 := fun w => two_any (mi a) w m0 (by omega)
  have C3 := fun w => two_any (se a) w s0 (by omega)
  have C4 := fun w => two_any (hu a) w h0 (by omega)
  rw [E]
  clear E
  generalize deg a = d at *
  generalize mi a = m at *
  generalize se a = s at *
  generalize hu a = u at *
  generalize dec d = ld at *
  generalize two m = lm at *
  generalize two s = ls at *
  generalize two u = lu at *
  by_cases c : a < 0
  · go_enter Try.func17, Try.ntmps17
    go_wp2_with fail
    refine P.mono ?_
    rintro e w1 ⟨rfl, B1⟩
    have F1 := Five.new w1 true d m s u 53
    have B := below1 B1 (below_new w1 (.cells #[.bool true, .int .i64 d, .int .i64 m, .int .i64 s, .int .i64 u] 53))
    clear B1 P
    rw [decide_eq_true c]
    go_wp2_with fail
    generalize hw2 : w1.alloc (.cells #[.bool true, .int .i64 d, .int .i64 m, .int .i64 s, .int .i64 u] 53) = w2 at *
    have q1 : ∀ d' os, Calls Try.prog 35 #[.int .i64 d] (grow (redrawn w2 d') os) fun e w'' => e = .returned (.string ⟨ld.toArray⟩) ∧ ∃ p : Regrown, w'' = grow (redrawn w2 p.d) p.os := fun d' os => Calls.regrown_of (C1 _)
    have q2 : ∀ d' os, Calls Try.prog 36 #[.int .i64 m] (grow (redrawn w2 d') os) fun e w'' => e = .returned (.string ⟨lm.toArray⟩) ∧ ∃ p : Regrown, w'' = grow (redrawn w2 p.d) p.os := fun d' os => Calls.regrown_of (C2 _)
    have q3 : ∀ d' os, Calls Try.prog 36 #[.int .i64 s] (grow (redrawn w2 d') os) fun e w'' => e = .returned (.string ⟨ls.toArray⟩) ∧ ∃ p : Regrown, w'' = grow (redrawn w2 p.d) p.os := fun d' os => Calls.regrown_of (C3 _)
    have q4 : ∀ d' os, Calls Try.prog 36 #[.int .i64 u] (grow (redrawn w2 d') os) fun e w'' => e = .returned (.string ⟨lu.toArray⟩) ∧ ∃ p : Regrown, w'' = grow (redrawn w2 p.d) p.os := fun d' os => Calls.regrown_of (C4 _)
    have k1 := cell_regrown F1.c1
    have k2 := cell_regrown F1.c2
    have k3 := cell_regrown F1.c3
    have k4 := cell_regrown F1.c4
    refine KS.region (by kernel_rfl) (by kernel_rfl) ?_
    iterate 3 (refine KS.step (fun K hK => ?_); go_simp; refine hK _ ?_; clear hK K)
    refine KS.step (fun K hK => ?_)
    go_simp
    apply Exists.intro
    refine ⟨fun _ => ?_, hK _ ?_⟩
    exact q1 _ _
    clear hK K
    iterate 2 (refine KS.step (fun K hK => ?_); go_simp; apply Exists.intro; refine ⟨fun _ => ?_, hK _ ?_⟩; rw [if_neg (by omega)]; exact And.intro rfl rfl; clear hK K)
    iterate 2 (refine KS.step (fun K hK => ?_); go_simp; refine hK _ ?_; clear hK K)
    refine KS.step (fun K hK => ?_)
    go_simp
    apply Exists.intro
    refine ⟨fun _ => ?_, hK _ ?_⟩
    exact q2 _ _
    clear hK K
    iterate 2 (refine KS.step (fun K hK => ?_); go_simp; apply Exists.intro; refine ⟨fun _ => ?_, hK _ ?_⟩; rw [if_neg (by omega)]; exact And.intro rfl rfl; clear hK K)
    iterate 2 (refine KS.step (fun K hK => ?_); go_simp; refine hK _ ?_; clear hK K)
    refine KS.step (fun K hK => ?_)
    go_simp
    apply Exists.intro
    refine ⟨fun _ => ?_, hK _ ?_⟩
    exact q3 _ _
    clear hK K
    iterate 2 (refine KS.step (fun K hK => ?_); go_simp; apply Exists.intro; refine ⟨fun _ => ?_, hK _ ?_⟩; rw [if_neg (by omega)]; exact And.intro rfl rfl; clear hK K)
    iterate 2 (refine KS.step (fun K hK => ?_); go_simp; refine hK _ ?_; clear hK K)
    refine KS.step (fun K hK => ?_)
    go_simp
    apply Exists.intro
    refine ⟨fun _ => ?_, hK _ ?_⟩
    exact q4 _ _
    clear hK K
    iterate 2 (refine KS.step (fun K hK => ?_); go_simp; apply Exists.intro; refine ⟨fun _ => ?_, hK _ ?_⟩; rw [if_neg (by omega)]; exact And.intro rfl rfl; clear hK K)
    iterate 1 (refine KS.step (fun K hK => ?_); go_simp; refine hK _ ?_; clear hK K)
    refine KS.nil ?_
    rintro _ ⟨p', rfl⟩
    clear q1 q2 q3 q4 k1 k2 k3 k4
    go_wp2
    go_ret
    exact ⟨ret_str ((nine [45] ld [100] lm [109] ls [46] lu [115]).trans (by simp)), below1 B (below_regrown _ _ _)⟩
  · go_enter Try.func17, Try.ntmps17
    go_wp2_with fail
    refine P.mono ?_
    rintro e w1 ⟨rfl, B1⟩
    have F1 := Five.new w1 false d m s u 53
    have B := below1 B1 (below_new w1 (.cells #[.bool false, .int .i64 d, .int .i64 m, .int .i64 s, .int .i64 u] 53))
    clear B1 P
    rw [decide_eq_false (show ¬ a < 0 by omega)]
    go_wp2_with fail
    generalize hw2 : w1.alloc (.cells #[.bool false, .int .i64 d, .int .i64 m, .int .i64 s, .int .i64 u] 53) = w2 at *
    have q1 : ∀ d' os, Calls Try.prog 35 #[.int .i64 d] (grow (redrawn w2 d') os) fun e w'' => e = .returned (.string ⟨ld.toArray⟩) ∧ ∃ p : Regrown, w'' = grow (redrawn w2 p.d) p.os := fun d' os => Calls.regrown_of (C1 _)
    have q2 : ∀ d' os, Calls Try.prog 36 #[.int .i64 m] (grow (redrawn w2 d') os) fun e w'' => e = .returned (.string ⟨lm.toArray⟩) ∧ ∃ p : Regrown, w'' = grow (redrawn w2 p.d) p.os := fun d' os => Calls.regrown_of (C2 _)
    have q3 : ∀ d' os, Calls Try.prog 36 #[.int .i64 s] (grow (redrawn w2 d') os) fun e w'' => e = .returned (.string ⟨ls.toArray⟩) ∧ ∃ p : Regrown, w'' = grow (redrawn w2 p.d) p.os := fun d' os => Calls.regrown_of (C3 _)
    have q4 : ∀ d' os, Calls Try.prog 36 #[.int .i64 u] (grow (redrawn w2 d') os) fun e w'' => e = .returned (.string ⟨lu.toArray⟩) ∧ ∃ p : Regrown, w'' = grow (redrawn w2 p.d) p.os := fun d' os => Calls.regrown_of (C4 _)
    have k1 := cell_regrown F1.c1
    have k2 := cell_regrown F1.c2
    have k3 := cell_regrown F1.c3
    have k4 := cell_regrown F1.c4
    refine KS.region (by kernel_rfl) (by kernel_rfl) ?_
    iterate 3 (refine KS.step (fun K hK => ?_); go_simp; refine hK _ ?_; clear hK K)
    refine KS.step (fun K hK => ?_)
    go_simp
    apply Exists.intro
    refine ⟨fun _ => ?_, hK _ ?_⟩
    exact q1 _ _
    clear hK K
    iterate 2 (refine KS.step (fun K hK => ?_); go_simp; apply Exists.intro; refine ⟨fun _ => ?_, hK _ ?_⟩; rw [if_neg (by omega)]; exact And.intro rfl rfl; clear hK K)
    iterate 2 (refine KS.step (fun K hK => ?_); go_simp; refine hK _ ?_; clear hK K)
    refine KS.step (fun K hK => ?_)
    go_simp
    apply Exists.intro
    refine ⟨fun _ => ?_, hK _ ?_⟩
    exact q2 _ _
    clear hK K
    iterate 2 (refine KS.step (fun K hK => ?_); go_simp; apply Exists.intro; refine ⟨fun _ => ?_, hK _ ?_⟩; rw [if_neg (by omega)]; exact And.intro rfl rfl; clear hK K)
    iterate 2 (refine KS.step (fun K hK => ?_); go_simp; refine hK _ ?_; clear hK K)
    refine KS.step (fun K hK => ?_)
    go_simp
    apply Exists.intro
    refine ⟨fun _ => ?_, hK _ ?_⟩
    exact q3 _ _
    clear hK K
    iterate 2 (refine KS.step (fun K hK => ?_); go_simp; apply Exists.intro; refine ⟨fun _ => ?_, hK _ ?_⟩; rw [if_neg (by omega)]; exact And.intro rfl rfl; clear hK K)
    iterate 2 (refine KS.step (fun K hK => ?_); go_simp; refine hK _ ?_; clear hK K)
    refine KS.step (fun K hK => ?_)
    go_simp
    apply Exists.intro
    refine ⟨fun _ => ?_, hK _ ?_⟩
    exact q4 _ _
    clear hK K
    iterate 2 (refine KS.step (fun K hK => ?_); go_simp; apply Exists.intro; refine ⟨fun _ => ?_, hK _ ?_⟩; rw [if_neg (by omega)]; exact And.intro rfl rfl; clear hK K)
    iterate 1 (refine KS.step (fun K hK => ?_); go_simp; refine hK _ ?_; clear hK K)
    refine KS.nil ?_
    rintro _ ⟨p', rfl⟩
    clear q1 q2 q3 q4 k1 k2 k3 k4
    go_wp2
    go_ret
    exact ⟨ret_str ((eight ld [100] lm [109] ls [46] lu [115]).trans (by simp)), below1 B (below_regrown _ _ _)⟩
theorem sText_any (a : Int) (w : World) :
    Calls Try.prog 17 #[.int .i64 a] w fun e w' => e = .returned (.string ⟨(textV a).toArray⟩) ∧ Below w.heap.size w w' := by
  cases h : inT a
  · have e : textV a = [] := by simp [textV, h]
    rw [e]
    have P := sParts_no a w h
    go_enter Try.func17, Try.ntmps17
    go_wp2_with fail
    refine P.mono ?_
    rintro e w1 ⟨rfl, B1⟩
    go_wp2
    go_ret
    exact ⟨rfl, below1 B1 (below_new _ _)⟩
  · have e : textV a = text a := by simp [textV, h]
    rw [e]
    exact sText_yes a w h
end AW
end Go.Proofs.Ytfdkpcejjcifgau
