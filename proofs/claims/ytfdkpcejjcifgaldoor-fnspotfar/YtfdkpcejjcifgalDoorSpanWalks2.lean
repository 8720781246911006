/-
  SpanMeet, SpanNeg, SpanAdd, SpanSub: a contract each.
-/
import Derived.Test.YtfdkpcejjcifgalDoorRows
import Derived.Test.YtfdkpcejjcifgalDoorSpanMath
import Derived.Test.YtfdkpcejjcifgalDoorNumWalks
import Derived.Test.YtfdkpcejjcifgalDoorSpanFits
import Derived.Test.YtfdkpcejjcifgalDoorQuietTail
import Derived.Test.YtfdkpcejjcifgalDoorSpanWalks
import Derived.WalkKit
import Derived.Below
import Derived.Lib.MinMax
namespace Go.Proofs.YtfdkpcejjcifgalDoor
open Go.RowKit Go.Sort
set_option linter.unusedVariables false
namespace SW
open SM

theorem meet_no {sl sh tl th : Int} (h : bothB sl sh tl th = false) : meetB sl sh tl th = false := by simp [meetB, h]
theorem meet_yes {sl sh tl th : Int} (h : bothB sl sh tl th = true) : meetB sl sh tl th = decide (max sl tl ≤ min sh th) := by simp [meetB, h]
theorem meet_ok {sl sh tl th : Int} (h : bothB sl sh tl th = true) : okS (max sl tl) (min sh th) = meetB sl sh tl th := by
  rw [meet_yes h]
  obtain ⟨h1, h2⟩ := both_of h
  have := okS_of h1
  have := okS_of h2
  exact bool_eq (fun e => decide_eq_true (okS_of e).2.1) (fun e => okS_mk (by have := of_decide_eq_true e; omega))
theorem add_no {sl sh tl th : Int} (h : bothB sl sh tl th = false) : addB sl sh tl th = false := by simp [addB, h]
theorem add_yes {sl sh tl th : Int} (h : bothB sl sh tl th = true) : okS (sl + tl) (sh + th) = addB sl sh tl th := by simp [addB, h]









theorem sub_no {sl sh tl th : Int} (h : okS tl th = false) : addB sl sh (-th) (-tl) = false := by
  have h := not_okS h
  exact add_no (both_no2 (okS_no (by omega)))
theorem wrap_neg_no {tl th : Int} (h : okS tl th = false) (t1 : -9223372036854775808 ≤ tl) (t2 : tl ≤ 9223372036854775807) (t3 : -9223372036854775808 ≤ th) (t4 : th ≤ 9223372036854775807) : okS (wrap64 (-th)) (wrap64 (-tl)) = false := by
  have h := not_okS h
  apply okS_no
  unfold wrap64
  omega



end SW
end Go.Proofs.YtfdkpcejjcifgalDoor
