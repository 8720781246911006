/-
  NARROWER THAN 'FOR EVERY INPUT', by the rows' own cells (each row's printed sentence says how): FnSpanMulNeg: ifaces, laid · FnSpanMulIn: ifaces, laid · FnSpanDiv: ifaces, laid · FnSpanDivNone: ifaces, laid · FnSpanDivBack: ifaces, laid · FnSpanRoot: ifaces, laid.
  DERIVED. THE GIVEN ROWS OF THIS SEAT. 6 by the template 'for every input the law returns true; each argument reads behind the call as it read before'; 0 by the template 'total and deterministic' (their statements: YtpddpekencccladDoorTotals.lean).
  GIVEN WITH THE SEED: the statements are not yours to turn. If you find one false, say at which input.
  Laid BY PROGRAM, IN A SANDBOX (cutbox-rows.mjs): the forced cells as the released guide's own fill.sh prints them over the translation 6d1af40b5e9fb1f9… (all of the seat's roots in one cut). By AI agents, Wed Nov 11 2026. No macro, syntax, notation, axiom, sorry.
-/
import Derived.Test.YtpddpekencccladDoorChecked
import GoSem.Claim
import GoSem.ClaimJoined
import GoSem.ClaimMapViews
import Derived.JoinedTies
import Derived.KernelRfl
namespace Go.Proofs.YtpddpekencccladDoor
/- THE CELL 'sum', in the pinned program and in every row, IS THE sha256 OF THE DUMP (.gsa) THAT YtpddpekencccladDoorProg.lean LOADS. Nothing in Lean hashes anything: it is a label: what it is worth is what the hold of that sum in a sandbox is worth. -/
noncomputable def Tryd.pinned : Pinned := { name := "ytpddpekencccladdoor", sum := "6d1af40b5e9fb1f91f5ad48fe22e7bf883385bb4cbe60076ab9e9fceca26092c", checked := Tryd.checked }
namespace Rows
def none {H : Type} : Left H := { results := [], args := [] }

/- WHAT THE LISTED PACKAGE-LEVEL VARIABLES READ AS WHEN THE CALL BEGINS. Each datum BY PROGRAM (the guide's laid-datum.mjs) off the statement by which the dump's own 'gosem.cut.vars' lays the variable. In a bare row this is a premise. The card (YtpddpekencccladDoorCards.lean) ties it to the program's text. -/
def laid_loop_example_alidade_impl_errTooGreat {H : Type} : DataW H := .iface "*errors.errorString" (.ptr (.agg [.lit (.string [97, 32, 115, 112, 97, 110, 32, 104, 97, 115, 32, 97, 110, 32, 101, 110, 100, 32, 98, 101, 121, 111, 110, 100, 32, 83, 112, 97, 110, 77, 97, 120])]))

/-- 'laws.FnSpanMulNeg': WHATEVER THE INPUT: true; the input reads as it did. -/
def fnSpanMulNegSpec : ChangeSpec := { name := "fnSpanMulNeg", vars := ["loop.example/alidade/impl.errTooGreat"], fn := fun _ => fun
  | [d, g1] => { results := [.lit (.bool true)], args := [d], vars := [g1] }
  | _ => none }
def fnSpanMulNegRow : OpenClaim := { program := "ytpddpekencccladdoor", sum := "6d1af40b5e9fb1f91f5ad48fe22e7bf883385bb4cbe60076ab9e9fceca26092c", func := "loop.example/alidade/laws.FnSpanMulNeg", spec := "fnSpanMulNeg", inPlace := ["internal/reflectlite.TypeOf"], unfollowed := true, recurses := true, named := ["loop.example/alidade/impl.errTooGreat"], ifaces := true, apart := false, laid := [("loop.example/alidade/impl.errTooGreat", laid_loop_example_alidade_impl_errTooGreat)] }
def FnSpanMulNegSaid : Prop := fnSpanMulNegRow.holds Tryd.pinned (OpenSpec.ofChange fnSpanMulNegSpec)

/-- ITS FALSE NEIGHBOUR: 'it returns false'. Refute it at one input. -/
def fnSpanMulNegWrong : ChangeSpec := { name := "fnSpanMulNeg", vars := ["loop.example/alidade/impl.errTooGreat"], fn := fun _ => fun
  | [d, g1] => { results := [.lit (.bool false)], args := [d], vars := [g1] }
  | _ => none }
def FnSpanMulNegWrongFalsely : Prop := fnSpanMulNegRow.holds Tryd.pinned (OpenSpec.ofChange fnSpanMulNegWrong)

/-- 'laws.FnSpanMulIn': WHATEVER THE INPUT: true; the input reads as it did. -/
def fnSpanMulInSpec : ChangeSpec := { name := "fnSpanMulIn", vars := ["loop.example/alidade/impl.errTooGreat"], fn := fun _ => fun
  | [d1, d2, g1] => { results := [.lit (.bool true)], args := [d1, d2], vars := [g1] }
  | _ => none }
def fnSpanMulInRow : OpenClaim := { program := "ytpddpekencccladdoor", sum := "6d1af40b5e9fb1f91f5ad48fe22e7bf883385bb4cbe60076ab9e9fceca26092c", func := "loop.example/alidade/laws.FnSpanMulIn", spec := "fnSpanMulIn", inPlace := ["internal/reflectlite.TypeOf"], unfollowed := true, recurses := true, named := ["loop.example/alidade/impl.errTooGreat"], ifaces := true, apart := false, laid := [("loop.example/alidade/impl.errTooGreat", laid_loop_example_alidade_impl_errTooGreat)] }
def FnSpanMulInSaid : Prop := fnSpanMulInRow.holds Tryd.pinned (OpenSpec.ofChange fnSpanMulInSpec)

/-- ITS FALSE NEIGHBOUR: 'it returns false'. Refute it at one input. -/
def fnSpanMulInWrong : ChangeSpec := { name := "fnSpanMulIn", vars := ["loop.example/alidade/impl.errTooGreat"], fn := fun _ => fun
  | [d1, d2, g1] => { results := [.lit (.bool false)], args := [d1, d2], vars := [g1] }
  | _ => none }
def FnSpanMulInWrongFalsely : Prop := fnSpanMulInRow.holds Tryd.pinned (OpenSpec.ofChange fnSpanMulInWrong)

/-- 'laws.FnSpanDiv': WHATEVER THE INPUT: true; the input reads as it did. -/
def fnSpanDivSpec : ChangeSpec := { name := "fnSpanDiv", vars := ["loop.example/alidade/impl.errTooGreat"], fn := fun _ => fun
  | [d1, d2, g1] => { results := [.lit (.bool true)], args := [d1, d2], vars := [g1] }
  | _ => none }
def fnSpanDivRow : OpenClaim := { program := "ytpddpekencccladdoor", sum := "6d1af40b5e9fb1f91f5ad48fe22e7bf883385bb4cbe60076ab9e9fceca26092c", func := "loop.example/alidade/laws.FnSpanDiv", spec := "fnSpanDiv", inPlace := ["internal/reflectlite.TypeOf"], unfollowed := true, recurses := true, named := ["loop.example/alidade/impl.errTooGreat"], ifaces := true, apart := false, laid := [("loop.example/alidade/impl.errTooGreat", laid_loop_example_alidade_impl_errTooGreat)] }
def FnSpanDivSaid : Prop := fnSpanDivRow.holds Tryd.pinned (OpenSpec.ofChange fnSpanDivSpec)

/-- ITS FALSE NEIGHBOUR: 'it returns false'. Refute it at one input. -/
def fnSpanDivWrong : ChangeSpec := { name := "fnSpanDiv", vars := ["loop.example/alidade/impl.errTooGreat"], fn := fun _ => fun
  | [d1, d2, g1] => { results := [.lit (.bool false)], args := [d1, d2], vars := [g1] }
  | _ => none }
def FnSpanDivWrongFalsely : Prop := fnSpanDivRow.holds Tryd.pinned (OpenSpec.ofChange fnSpanDivWrong)

/-- 'laws.FnSpanDivNone': WHATEVER THE INPUT: true; the input reads as it did. -/
def fnSpanDivNoneSpec : ChangeSpec := { name := "fnSpanDivNone", vars := ["loop.example/alidade/impl.errTooGreat"], fn := fun _ => fun
  | [d, g1] => { results := [.lit (.bool true)], args := [d], vars := [g1] }
  | _ => none }
def fnSpanDivNoneRow : OpenClaim := { program := "ytpddpekencccladdoor", sum := "6d1af40b5e9fb1f91f5ad48fe22e7bf883385bb4cbe60076ab9e9fceca26092c", func := "loop.example/alidade/laws.FnSpanDivNone", spec := "fnSpanDivNone", inPlace := ["internal/reflectlite.TypeOf"], unfollowed := true, recurses := true, named := ["loop.example/alidade/impl.errTooGreat"], ifaces := true, apart := false, laid := [("loop.example/alidade/impl.errTooGreat", laid_loop_example_alidade_impl_errTooGreat)] }
def FnSpanDivNoneSaid : Prop := fnSpanDivNoneRow.holds Tryd.pinned (OpenSpec.ofChange fnSpanDivNoneSpec)

/-- ITS FALSE NEIGHBOUR: 'it returns false'. Refute it at one input. -/
def fnSpanDivNoneWrong : ChangeSpec := { name := "fnSpanDivNone", vars := ["loop.example/alidade/impl.errTooGreat"], fn := fun _ => fun
  | [d, g1] => { results := [.lit (.bool false)], args := [d], vars := [g1] }
  | _ => none }
def FnSpanDivNoneWrongFalsely : Prop := fnSpanDivNoneRow.holds Tryd.pinned (OpenSpec.ofChange fnSpanDivNoneWrong)

/-- 'laws.FnSpanDivBack': WHATEVER THE INPUT: true; the input reads as it did. -/
def fnSpanDivBackSpec : ChangeSpec := { name := "fnSpanDivBack", vars := ["loop.example/alidade/impl.errTooGreat"], fn := fun _ => fun
  | [d, g1] => { results := [.lit (.bool true)], args := [d], vars := [g1] }
  | _ => none }
def fnSpanDivBackRow : OpenClaim := { program := "ytpddpekencccladdoor", sum := "6d1af40b5e9fb1f91f5ad48fe22e7bf883385bb4cbe60076ab9e9fceca26092c", func := "loop.example/alidade/laws.FnSpanDivBack", spec := "fnSpanDivBack", inPlace := ["internal/reflectlite.TypeOf"], unfollowed := true, recurses := true, named := ["loop.example/alidade/impl.errTooGreat"], ifaces := true, apart := false, laid := [("loop.example/alidade/impl.errTooGreat", laid_loop_example_alidade_impl_errTooGreat)] }
def FnSpanDivBackSaid : Prop := fnSpanDivBackRow.holds Tryd.pinned (OpenSpec.ofChange fnSpanDivBackSpec)

/-- ITS FALSE NEIGHBOUR: 'it returns false'. Refute it at one input. -/
def fnSpanDivBackWrong : ChangeSpec := { name := "fnSpanDivBack", vars := ["loop.example/alidade/impl.errTooGreat"], fn := fun _ => fun
  | [d, g1] => { results := [.lit (.bool false)], args := [d], vars := [g1] }
  | _ => none }
def FnSpanDivBackWrongFalsely : Prop := fnSpanDivBackRow.holds Tryd.pinned (OpenSpec.ofChange fnSpanDivBackWrong)

/-- 'laws.FnSpanRoot': WHATEVER THE INPUT: true; the input reads as it did. -/
def fnSpanRootSpec : ChangeSpec := { name := "fnSpanRoot", vars := ["loop.example/alidade/impl.errTooGreat"], fn := fun _ => fun
  | [d, g1] => { results := [.lit (.bool true)], args := [d], vars := [g1] }
  | _ => none }
def fnSpanRootRow : OpenClaim := { program := "ytpddpekencccladdoor", sum := "6d1af40b5e9fb1f91f5ad48fe22e7bf883385bb4cbe60076ab9e9fceca26092c", func := "loop.example/alidade/laws.FnSpanRoot", spec := "fnSpanRoot", inPlace := ["internal/reflectlite.TypeOf"], unfollowed := true, recurses := true, named := ["loop.example/alidade/impl.errTooGreat"], ifaces := true, apart := false, laid := [("loop.example/alidade/impl.errTooGreat", laid_loop_example_alidade_impl_errTooGreat)] }
def FnSpanRootSaid : Prop := fnSpanRootRow.holds Tryd.pinned (OpenSpec.ofChange fnSpanRootSpec)

/-- ITS FALSE NEIGHBOUR: 'it returns false'. Refute it at one input. -/
def fnSpanRootWrong : ChangeSpec := { name := "fnSpanRoot", vars := ["loop.example/alidade/impl.errTooGreat"], fn := fun _ => fun
  | [d, g1] => { results := [.lit (.bool false)], args := [d], vars := [g1] }
  | _ => none }
def FnSpanRootWrongFalsely : Prop := fnSpanRootRow.holds Tryd.pinned (OpenSpec.ofChange fnSpanRootWrong)

/- THE SECOND FORM. 'bulk': how many values and letters a reading holds, each counted each time it is reached (what is shared counts as often as it is met; a slice's spare places count too). A statement '..UptoSaid' is the law's where the arguments, and the package variables that the reading takes, are together of bulk at most 1048576: NARROWER than '..Said'. Prove '..Said' where nothing that the law and all that it calls make is longer than what came in: it says more and counts as full. Else prove '..UptoSaid'. A law counts once. -/
mutual
def uptoBulk {H : Type} : DataW H → Nat
  | .lit (.string bytes) => bytes.length + 1
  | .lit _ => 1
  | .nil => 1
  | .ptr d => uptoBulk d + 1
  | .slice elems spare => uptoBulkAll elems + uptoBulkAll spare + 1
  | .agg parts => uptoBulkAll parts + 1
  | .iface _ d => uptoBulk d + 1
  | .map entries => uptoBulkEntries entries + 1
  | .held _ => 1
def uptoBulkAll {H : Type} : List (DataW H) → Nat
  | [] => 0
  | d :: r => uptoBulk d + uptoBulkAll r
def uptoBulkEntries {H : Type} : List (Lit × DataW H) → Nat
  | [] => 0
  | x :: r => uptoBulkEntry x + uptoBulkEntries r
def uptoBulkEntry {H : Type} : Lit × DataW H → Nat
  | (.string bytes, d) => bytes.length + uptoBulk d + 1
  | (_, d) => uptoBulk d + 1
 end
def uptoSmall : (H : Type) → List (DataW H) → Bool := fun _ ds => decide (uptoBulkAll ds ≤ 1048576)
def OpenSpec.upto (s : _root_.Go.ChangeSpec) : _root_.Go.OpenSpec := { _root_.Go.OpenSpec.ofChange s with cond := some uptoSmall }

/-- 'laws.FnSpanMulNeg', WHERE WHAT IT READS IS OF BULK AT MOST 1048576: true; the input reads as it did. -/
def fnSpanMulNegUptoRow : OpenClaim := { program := "ytpddpekencccladdoor", sum := "6d1af40b5e9fb1f91f5ad48fe22e7bf883385bb4cbe60076ab9e9fceca26092c", func := "loop.example/alidade/laws.FnSpanMulNeg", spec := "fnSpanMulNeg", inPlace := ["internal/reflectlite.TypeOf"], unfollowed := true, recurses := true, named := ["loop.example/alidade/impl.errTooGreat"], ifaces := true, apart := false, laid := [("loop.example/alidade/impl.errTooGreat", laid_loop_example_alidade_impl_errTooGreat)], narrowed := true }
def FnSpanMulNegUptoSaid : Prop := fnSpanMulNegUptoRow.holds Tryd.pinned (OpenSpec.upto fnSpanMulNegSpec)

/-- 'laws.FnSpanMulIn', WHERE WHAT IT READS IS OF BULK AT MOST 1048576: true; the input reads as it did. -/
def fnSpanMulInUptoRow : OpenClaim := { program := "ytpddpekencccladdoor", sum := "6d1af40b5e9fb1f91f5ad48fe22e7bf883385bb4cbe60076ab9e9fceca26092c", func := "loop.example/alidade/laws.FnSpanMulIn", spec := "fnSpanMulIn", inPlace := ["internal/reflectlite.TypeOf"], unfollowed := true, recurses := true, named := ["loop.example/alidade/impl.errTooGreat"], ifaces := true, apart := false, laid := [("loop.example/alidade/impl.errTooGreat", laid_loop_example_alidade_impl_errTooGreat)], narrowed := true }
def FnSpanMulInUptoSaid : Prop := fnSpanMulInUptoRow.holds Tryd.pinned (OpenSpec.upto fnSpanMulInSpec)

/-- 'laws.FnSpanDiv', WHERE WHAT IT READS IS OF BULK AT MOST 1048576: true; the input reads as it did. -/
def fnSpanDivUptoRow : OpenClaim := { program := "ytpddpekencccladdoor", sum := "6d1af40b5e9fb1f91f5ad48fe22e7bf883385bb4cbe60076ab9e9fceca26092c", func := "loop.example/alidade/laws.FnSpanDiv", spec := "fnSpanDiv", inPlace := ["internal/reflectlite.TypeOf"], unfollowed := true, recurses := true, named := ["loop.example/alidade/impl.errTooGreat"], ifaces := true, apart := false, laid := [("loop.example/alidade/impl.errTooGreat", laid_loop_example_alidade_impl_errTooGreat)], narrowed := true }
def FnSpanDivUptoSaid : Prop := fnSpanDivUptoRow.holds Tryd.pinned (OpenSpec.upto fnSpanDivSpec)

/-- 'laws.FnSpanDivNone', WHERE WHAT IT READS IS OF BULK AT MOST 1048576: true; the input reads as it did. -/
def fnSpanDivNoneUptoRow : OpenClaim := { program := "ytpddpekencccladdoor", sum := "6d1af40b5e9fb1f91f5ad48fe22e7bf883385bb4cbe60076ab9e9fceca26092c", func := "loop.example/alidade/laws.FnSpanDivNone", spec := "fnSpanDivNone", inPlace := ["internal/reflectlite.TypeOf"], unfollowed := true, recurses := true, named := ["loop.example/alidade/impl.errTooGreat"], ifaces := true, apart := false, laid := [("loop.example/alidade/impl.errTooGreat", laid_loop_example_alidade_impl_errTooGreat)], narrowed := true }
def FnSpanDivNoneUptoSaid : Prop := fnSpanDivNoneUptoRow.holds Tryd.pinned (OpenSpec.upto fnSpanDivNoneSpec)

/-- 'laws.FnSpanDivBack', WHERE WHAT IT READS IS OF BULK AT MOST 1048576: true; the input reads as it did. -/
def fnSpanDivBackUptoRow : OpenClaim := { program := "ytpddpekencccladdoor", sum := "6d1af40b5e9fb1f91f5ad48fe22e7bf883385bb4cbe60076ab9e9fceca26092c", func := "loop.example/alidade/laws.FnSpanDivBack", spec := "fnSpanDivBack", inPlace := ["internal/reflectlite.TypeOf"], unfollowed := true, recurses := true, named := ["loop.example/alidade/impl.errTooGreat"], ifaces := true, apart := false, laid := [("loop.example/alidade/impl.errTooGreat", laid_loop_example_alidade_impl_errTooGreat)], narrowed := true }
def FnSpanDivBackUptoSaid : Prop := fnSpanDivBackUptoRow.holds Tryd.pinned (OpenSpec.upto fnSpanDivBackSpec)

/-- 'laws.FnSpanRoot', WHERE WHAT IT READS IS OF BULK AT MOST 1048576: true; the input reads as it did. -/
def fnSpanRootUptoRow : OpenClaim := { program := "ytpddpekencccladdoor", sum := "6d1af40b5e9fb1f91f5ad48fe22e7bf883385bb4cbe60076ab9e9fceca26092c", func := "loop.example/alidade/laws.FnSpanRoot", spec := "fnSpanRoot", inPlace := ["internal/reflectlite.TypeOf"], unfollowed := true, recurses := true, named := ["loop.example/alidade/impl.errTooGreat"], ifaces := true, apart := false, laid := [("loop.example/alidade/impl.errTooGreat", laid_loop_example_alidade_impl_errTooGreat)], narrowed := true }
def FnSpanRootUptoSaid : Prop := fnSpanRootUptoRow.holds Tryd.pinned (OpenSpec.upto fnSpanRootSpec)

end Rows
end Go.Proofs.YtpddpekencccladDoor
