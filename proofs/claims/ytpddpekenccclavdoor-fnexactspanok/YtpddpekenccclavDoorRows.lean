/-
  NARROWER THAN 'FOR EVERY INPUT', by the rows' own cells (each row's printed sentence says how): FnExactSpanOk: ifaces, laid · FnExactSpanOf: ifaces, laid · FnExactSpanHas: ifaces, laid · FnExactSpanWithin: ifaces, laid · FnExactSpanHull: ifaces, laid.
  DERIVED. THE GIVEN ROWS OF THIS SEAT. 5 by the template 'for every input the law returns true; each argument reads behind the call as it read before'; 0 by the template 'total and deterministic' (their statements: YtpddpekenccclavDoorTotals.lean).
  GIVEN WITH THE SEED: the statements are not yours to turn. If you find one false, say at which input.
  Laid BY PROGRAM, IN A SANDBOX (cutbox-rows.mjs): the forced cells as the released guide's own fill.sh prints them over the translation 90830761aa6c7707… (all of the seat's roots in one cut). By AI agents, Wed Nov 11 2026. No macro, syntax, notation, axiom, sorry.
-/
import Derived.Test.YtpddpekenccclavDoorChecked
import GoSem.Claim
import GoSem.ClaimJoined
import GoSem.ClaimMapViews
import Derived.JoinedTies
import Derived.KernelRfl
namespace Go.Proofs.YtpddpekenccclavDoor
/- THE CELL 'sum', in the pinned program and in every row, IS THE sha256 OF THE DUMP (.gsa) THAT YtpddpekenccclavDoorProg.lean LOADS. Nothing in Lean hashes anything: it is a label: what it is worth is what the hold of that sum in a sandbox is worth. -/
noncomputable def Tryd.pinned : Pinned := { name := "ytpddpekenccclavdoor", sum := "90830761aa6c77079427dfe79a07c10b119cec5c01956051a6acf952ec341f78", checked := Tryd.checked }
namespace Rows
def none {H : Type} : Left H := { results := [], args := [] }

/- WHAT THE LISTED PACKAGE-LEVEL VARIABLES READ AS WHEN THE CALL BEGINS. Each datum BY PROGRAM (the guide's laid-datum.mjs) off the statement by which the dump's own 'gosem.cut.vars' lays the variable. In a bare row this is a premise. The card (YtpddpekenccclavDoorCards.lean) ties it to the program's text. -/
def laid_loop_example_alidade_impl_errTooGreat {H : Type} : DataW H := .iface "*errors.errorString" (.ptr (.agg [.lit (.string [97, 32, 115, 112, 97, 110, 32, 104, 97, 115, 32, 97, 110, 32, 101, 110, 100, 32, 98, 101, 121, 111, 110, 100, 32, 83, 112, 97, 110, 77, 97, 120])]))

/-- 'laws.FnExactSpanOk': WHATEVER THE INPUT: true; the input reads as it did. -/
def fnExactSpanOkSpec : ChangeSpec := { name := "fnExactSpanOk", vars := ["loop.example/alidade/impl.errTooGreat"], fn := fun _ => fun
  | [d, g1] => { results := [.lit (.bool true)], args := [d], vars := [g1] }
  | _ => none }
def fnExactSpanOkRow : OpenClaim := { program := "ytpddpekenccclavdoor", sum := "90830761aa6c77079427dfe79a07c10b119cec5c01956051a6acf952ec341f78", func := "loop.example/alidade/laws.FnExactSpanOk", spec := "fnExactSpanOk", inPlace := ["internal/reflectlite.TypeOf"], unfollowed := true, recurses := true, named := ["loop.example/alidade/impl.errTooGreat"], ifaces := true, apart := false, laid := [("loop.example/alidade/impl.errTooGreat", laid_loop_example_alidade_impl_errTooGreat)] }
def FnExactSpanOkSaid : Prop := fnExactSpanOkRow.holds Tryd.pinned (OpenSpec.ofChange fnExactSpanOkSpec)

/-- ITS FALSE NEIGHBOUR: 'it returns false'. Refute it at one input. -/
def fnExactSpanOkWrong : ChangeSpec := { name := "fnExactSpanOk", vars := ["loop.example/alidade/impl.errTooGreat"], fn := fun _ => fun
  | [d, g1] => { results := [.lit (.bool false)], args := [d], vars := [g1] }
  | _ => none }
def FnExactSpanOkWrongFalsely : Prop := fnExactSpanOkRow.holds Tryd.pinned (OpenSpec.ofChange fnExactSpanOkWrong)

/-- 'laws.FnExactSpanOf': WHATEVER THE INPUT: true; the input reads as it did. -/
def fnExactSpanOfSpec : ChangeSpec := { name := "fnExactSpanOf", vars := ["loop.example/alidade/impl.errTooGreat"], fn := fun _ => fun
  | [d1, d2, g1] => { results := [.lit (.bool true)], args := [d1, d2], vars := [g1] }
  | _ => none }
def fnExactSpanOfRow : OpenClaim := { program := "ytpddpekenccclavdoor", sum := "90830761aa6c77079427dfe79a07c10b119cec5c01956051a6acf952ec341f78", func := "loop.example/alidade/laws.FnExactSpanOf", spec := "fnExactSpanOf", inPlace := ["internal/reflectlite.TypeOf"], unfollowed := true, recurses := true, named := ["loop.example/alidade/impl.errTooGreat"], ifaces := true, apart := false, laid := [("loop.example/alidade/impl.errTooGreat", laid_loop_example_alidade_impl_errTooGreat)] }
def FnExactSpanOfSaid : Prop := fnExactSpanOfRow.holds Tryd.pinned (OpenSpec.ofChange fnExactSpanOfSpec)

/-- ITS FALSE NEIGHBOUR: 'it returns false'. Refute it at one input. -/
def fnExactSpanOfWrong : ChangeSpec := { name := "fnExactSpanOf", vars := ["loop.example/alidade/impl.errTooGreat"], fn := fun _ => fun
  | [d1, d2, g1] => { results := [.lit (.bool false)], args := [d1, d2], vars := [g1] }
  | _ => none }
def FnExactSpanOfWrongFalsely : Prop := fnExactSpanOfRow.holds Tryd.pinned (OpenSpec.ofChange fnExactSpanOfWrong)

/-- 'laws.FnExactSpanHas': WHATEVER THE INPUT: true; the input reads as it did. -/
def fnExactSpanHasSpec : ChangeSpec := { name := "fnExactSpanHas", vars := ["loop.example/alidade/impl.errTooGreat"], fn := fun _ => fun
  | [d1, d2, d3, g1] => { results := [.lit (.bool true)], args := [d1, d2, d3], vars := [g1] }
  | _ => none }
def fnExactSpanHasRow : OpenClaim := { program := "ytpddpekenccclavdoor", sum := "90830761aa6c77079427dfe79a07c10b119cec5c01956051a6acf952ec341f78", func := "loop.example/alidade/laws.FnExactSpanHas", spec := "fnExactSpanHas", inPlace := ["internal/reflectlite.TypeOf"], unfollowed := true, recurses := true, named := ["loop.example/alidade/impl.errTooGreat"], ifaces := true, apart := false, laid := [("loop.example/alidade/impl.errTooGreat", laid_loop_example_alidade_impl_errTooGreat)] }
def FnExactSpanHasSaid : Prop := fnExactSpanHasRow.holds Tryd.pinned (OpenSpec.ofChange fnExactSpanHasSpec)

/-- ITS FALSE NEIGHBOUR: 'it returns false'. Refute it at one input. -/
def fnExactSpanHasWrong : ChangeSpec := { name := "fnExactSpanHas", vars := ["loop.example/alidade/impl.errTooGreat"], fn := fun _ => fun
  | [d1, d2, d3, g1] => { results := [.lit (.bool false)], args := [d1, d2, d3], vars := [g1] }
  | _ => none }
def FnExactSpanHasWrongFalsely : Prop := fnExactSpanHasRow.holds Tryd.pinned (OpenSpec.ofChange fnExactSpanHasWrong)

/-- 'laws.FnExactSpanWithin': WHATEVER THE INPUT: true; the input reads as it did. -/
def fnExactSpanWithinSpec : ChangeSpec := { name := "fnExactSpanWithin", vars := ["loop.example/alidade/impl.errTooGreat"], fn := fun _ => fun
  | [d1, d2, g1] => { results := [.lit (.bool true)], args := [d1, d2], vars := [g1] }
  | _ => none }
def fnExactSpanWithinRow : OpenClaim := { program := "ytpddpekenccclavdoor", sum := "90830761aa6c77079427dfe79a07c10b119cec5c01956051a6acf952ec341f78", func := "loop.example/alidade/laws.FnExactSpanWithin", spec := "fnExactSpanWithin", inPlace := ["internal/reflectlite.TypeOf"], unfollowed := true, recurses := true, named := ["loop.example/alidade/impl.errTooGreat"], ifaces := true, apart := false, laid := [("loop.example/alidade/impl.errTooGreat", laid_loop_example_alidade_impl_errTooGreat)] }
def FnExactSpanWithinSaid : Prop := fnExactSpanWithinRow.holds Tryd.pinned (OpenSpec.ofChange fnExactSpanWithinSpec)

/-- ITS FALSE NEIGHBOUR: 'it returns false'. Refute it at one input. -/
def fnExactSpanWithinWrong : ChangeSpec := { name := "fnExactSpanWithin", vars := ["loop.example/alidade/impl.errTooGreat"], fn := fun _ => fun
  | [d1, d2, g1] => { results := [.lit (.bool false)], args := [d1, d2], vars := [g1] }
  | _ => none }
def FnExactSpanWithinWrongFalsely : Prop := fnExactSpanWithinRow.holds Tryd.pinned (OpenSpec.ofChange fnExactSpanWithinWrong)

/-- 'laws.FnExactSpanHull': WHATEVER THE INPUT: true; the input reads as it did. -/
def fnExactSpanHullSpec : ChangeSpec := { name := "fnExactSpanHull", vars := ["loop.example/alidade/impl.errTooGreat"], fn := fun _ => fun
  | [d1, d2, g1] => { results := [.lit (.bool true)], args := [d1, d2], vars := [g1] }
  | _ => none }
def fnExactSpanHullRow : OpenClaim := { program := "ytpddpekenccclavdoor", sum := "90830761aa6c77079427dfe79a07c10b119cec5c01956051a6acf952ec341f78", func := "loop.example/alidade/laws.FnExactSpanHull", spec := "fnExactSpanHull", inPlace := ["internal/reflectlite.TypeOf"], unfollowed := true, recurses := true, named := ["loop.example/alidade/impl.errTooGreat"], ifaces := true, apart := false, laid := [("loop.example/alidade/impl.errTooGreat", laid_loop_example_alidade_impl_errTooGreat)] }
def FnExactSpanHullSaid : Prop := fnExactSpanHullRow.holds Tryd.pinned (OpenSpec.ofChange fnExactSpanHullSpec)

/-- ITS FALSE NEIGHBOUR: 'it returns false'. Refute it at one input. -/
def fnExactSpanHullWrong : ChangeSpec := { name := "fnExactSpanHull", vars := ["loop.example/alidade/impl.errTooGreat"], fn := fun _ => fun
  | [d1, d2, g1] => { results := [.lit (.bool false)], args := [d1, d2], vars := [g1] }
  | _ => none }
def FnExactSpanHullWrongFalsely : Prop := fnExactSpanHullRow.holds Tryd.pinned (OpenSpec.ofChange fnExactSpanHullWrong)

/- THE SECOND FORM. 'bulk': how many values and letters a reading holds, each counted each time it is reached (what is shared counts as often as it is met; a slice's spare places count too). A statement '..UptoSaid' is the law's where the arguments, and the package variables that the reading takes, are together of bulk at most 1048576: NARROWER than '..Said'. Prove '..Said' where nothing that the law and all that it calls make is longer than what came in: it says more and counts as full. Else prove '..UptoSaid'. A law counts once. -/
mutual
def uptoBulk {H : Type} : DataW H → Nat
  | .lit (.string bytes) => bytes.length + 1
  | .lit _ => 1
  | .nil => 1
  | .ptr d => uptoBulk d + 1
  | .slice elems spare => uptoBulkAll elems + uptoBulkAll spare + 1
  | .agg parts => uptoBulkAll parts + 1
  | .iface _ d => uptoBulk d + 1
  | .map entries => uptoBulkEntries entries + 1
  | .held _ => 1
def uptoBulkAll {H : Type} : List (DataW H) → Nat
  | [] => 0
  | d :: r => uptoBulk d + uptoBulkAll r
def uptoBulkEntries {H : Type} : List (Lit × DataW H) → Nat
  | [] => 0
  | x :: r => uptoBulkEntry x + uptoBulkEntries r
def uptoBulkEntry {H : Type} : Lit × DataW H → Nat
  | (.string bytes, d) => bytes.length + uptoBulk d + 1
  | (_, d) => uptoBulk d + 1
 end
def uptoSmall : (H : Type) → List (DataW H) → Bool := fun _ ds => decide (uptoBulkAll ds ≤ 1048576)
def OpenSpec.upto (s : _root_.Go.ChangeSpec) : _root_.Go.OpenSpec := { _root_.Go.OpenSpec.ofChange s with cond := some uptoSmall }

/-- 'laws.FnExactSpanOk', WHERE WHAT IT READS IS OF BULK AT MOST 1048576: true; the input reads as it did. -/
def fnExactSpanOkUptoRow : OpenClaim := { program := "ytpddpekenccclavdoor", sum := "90830761aa6c77079427dfe79a07c10b119cec5c01956051a6acf952ec341f78", func := "loop.example/alidade/laws.FnExactSpanOk", spec := "fnExactSpanOk", inPlace := ["internal/reflectlite.TypeOf"], unfollowed := true, recurses := true, named := ["loop.example/alidade/impl.errTooGreat"], ifaces := true, apart := false, laid := [("loop.example/alidade/impl.errTooGreat", laid_loop_example_alidade_impl_errTooGreat)], narrowed := true }
def FnExactSpanOkUptoSaid : Prop := fnExactSpanOkUptoRow.holds Tryd.pinned (OpenSpec.upto fnExactSpanOkSpec)

/-- 'laws.FnExactSpanOf', WHERE WHAT IT READS IS OF BULK AT MOST 1048576: true; the input reads as it did. -/
def fnExactSpanOfUptoRow : OpenClaim := { program := "ytpddpekenccclavdoor", sum := "90830761aa6c77079427dfe79a07c10b119cec5c01956051a6acf952ec341f78", func := "loop.example/alidade/laws.FnExactSpanOf", spec := "fnExactSpanOf", inPlace := ["internal/reflectlite.TypeOf"], unfollowed := true, recurses := true, named := ["loop.example/alidade/impl.errTooGreat"], ifaces := true, apart := false, laid := [("loop.example/alidade/impl.errTooGreat", laid_loop_example_alidade_impl_errTooGreat)], narrowed := true }
def FnExactSpanOfUptoSaid : Prop := fnExactSpanOfUptoRow.holds Tryd.pinned (OpenSpec.upto fnExactSpanOfSpec)

/-- 'laws.FnExactSpanHas', WHERE WHAT IT READS IS OF BULK AT MOST 1048576: true; the input reads as it did. -/
def fnExactSpanHasUptoRow : OpenClaim := { program := "ytpddpekenccclavdoor", sum := "90830761aa6c77079427dfe79a07c10b119cec5c01956051a6acf952ec341f78", func := "loop.example/alidade/laws.FnExactSpanHas", spec := "fnExactSpanHas", inPlace := ["internal/reflectlite.TypeOf"], unfollowed := true, recurses := true, named := ["loop.example/alidade/impl.errTooGreat"], ifaces := true, apart := false, laid := [("loop.example/alidade/impl.errTooGreat", laid_loop_example_alidade_impl_errTooGreat)], narrowed := true }
def FnExactSpanHasUptoSaid : Prop := fnExactSpanHasUptoRow.holds Tryd.pinned (OpenSpec.upto fnExactSpanHasSpec)

/-- 'laws.FnExactSpanWithin', WHERE WHAT IT READS IS OF BULK AT MOST 1048576: true; the input reads as it did. -/
def fnExactSpanWithinUptoRow : OpenClaim := { program := "ytpddpekenccclavdoor", sum := "90830761aa6c77079427dfe79a07c10b119cec5c01956051a6acf952ec341f78", func := "loop.example/alidade/laws.FnExactSpanWithin", spec := "fnExactSpanWithin", inPlace := ["internal/reflectlite.TypeOf"], unfollowed := true, recurses := true, named := ["loop.example/alidade/impl.errTooGreat"], ifaces := true, apart := false, laid := [("loop.example/alidade/impl.errTooGreat", laid_loop_example_alidade_impl_errTooGreat)], narrowed := true }
def FnExactSpanWithinUptoSaid : Prop := fnExactSpanWithinUptoRow.holds Tryd.pinned (OpenSpec.upto fnExactSpanWithinSpec)

/-- 'laws.FnExactSpanHull', WHERE WHAT IT READS IS OF BULK AT MOST 1048576: true; the input reads as it did. -/
def fnExactSpanHullUptoRow : OpenClaim := { program := "ytpddpekenccclavdoor", sum := "90830761aa6c77079427dfe79a07c10b119cec5c01956051a6acf952ec341f78", func := "loop.example/alidade/laws.FnExactSpanHull", spec := "fnExactSpanHull", inPlace := ["internal/reflectlite.TypeOf"], unfollowed := true, recurses := true, named := ["loop.example/alidade/impl.errTooGreat"], ifaces := true, apart := false, laid := [("loop.example/alidade/impl.errTooGreat", laid_loop_example_alidade_impl_errTooGreat)], narrowed := true }
def FnExactSpanHullUptoSaid : Prop := fnExactSpanHullUptoRow.holds Tryd.pinned (OpenSpec.upto fnExactSpanHullSpec)

end Rows
end Go.Proofs.YtpddpekenccclavDoor
