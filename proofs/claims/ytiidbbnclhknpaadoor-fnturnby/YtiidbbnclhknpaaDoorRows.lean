/-
  NARROWER THAN 'FOR EVERY INPUT', by the rows' own cells (each row's printed sentence says how): FnTurnBy: ifaces, laid · FnTurnNeg: ifaces, laid.
  DERIVED. THE GIVEN ROWS OF THIS SEAT. 2 by the template 'for every input the law returns true; each argument reads behind the call as it read before'; 0 by the template 'total and deterministic' (their statements: YtiidbbnclhknpaaDoorTotals.lean).
  GIVEN WITH THE SEED: the statements are not yours to turn. If you find one false, say at which input.
  Laid BY PROGRAM, IN A SANDBOX (cutbox-rows.mjs): the forced cells as the released guide's own fill.sh prints them over the translation f17fa050b4de66c6… (all of the seat's roots in one cut). By AI agents, Wed Nov 11 2026. No macro, syntax, notation, axiom, sorry.
-/
import Derived.Test.YtiidbbnclhknpaaDoorChecked
import GoSem.Claim
import GoSem.ClaimJoined
import GoSem.ClaimMapViews
import Derived.JoinedTies
import Derived.KernelRfl
namespace Go.Proofs.YtiidbbnclhknpaaDoor
/- THE CELL 'sum', in the pinned program and in every row, IS THE sha256 OF THE DUMP (.gsa) THAT YtiidbbnclhknpaaDoorProg.lean LOADS. Nothing in Lean hashes anything: it is a label: what it is worth is what the hold of that sum in a sandbox is worth. -/
noncomputable def Tryd.pinned : Pinned := { name := "ytiidbbnclhknpaadoor", sum := "f17fa050b4de66c62dce2c4779d949643bbf747fd48e6f8b449bd0a4d8503740", checked := Tryd.checked }
namespace Rows
def none {H : Type} : Left H := { results := [], args := [] }

/- WHAT THE LISTED PACKAGE-LEVEL VARIABLES READ AS WHEN THE CALL BEGINS. Each datum BY PROGRAM (the guide's laid-datum.mjs) off the statement by which the dump's own 'gosem.cut.vars' lays the variable. In a bare row this is a premise. The card (YtiidbbnclhknpaaDoorCards.lean) ties it to the program's text. -/
def laid_loop_example_alidade_impl_errTooGreat {H : Type} : DataW H := .iface "*errors.errorString" (.ptr (.agg [.lit (.string [97, 32, 115, 112, 97, 110, 32, 104, 97, 115, 32, 97, 110, 32, 101, 110, 100, 32, 98, 101, 121, 111, 110, 100, 32, 83, 112, 97, 110, 77, 97, 120])]))

/-- 'laws.FnTurnBy': WHATEVER THE INPUT: true; the input reads as it did. -/
def fnTurnBySpec : ChangeSpec := { name := "fnTurnBy", vars := ["loop.example/alidade/impl.errTooGreat"], fn := fun _ => fun
  | [d, g1] => { results := [.lit (.bool true)], args := [d], vars := [g1] }
  | _ => none }
def fnTurnByRow : OpenClaim := { program := "ytiidbbnclhknpaadoor", sum := "f17fa050b4de66c62dce2c4779d949643bbf747fd48e6f8b449bd0a4d8503740", func := "loop.example/alidade/laws.FnTurnBy", spec := "fnTurnBy", inPlace := ["internal/reflectlite.TypeOf"], unfollowed := true, recurses := true, named := ["loop.example/alidade/impl.errTooGreat"], ifaces := true, apart := false, laid := [("loop.example/alidade/impl.errTooGreat", laid_loop_example_alidade_impl_errTooGreat)] }
def FnTurnBySaid : Prop := fnTurnByRow.holds Tryd.pinned (OpenSpec.ofChange fnTurnBySpec)

/-- ITS FALSE NEIGHBOUR: 'it returns false'. Refute it at one input. -/
def fnTurnByWrong : ChangeSpec := { name := "fnTurnBy", vars := ["loop.example/alidade/impl.errTooGreat"], fn := fun _ => fun
  | [d, g1] => { results := [.lit (.bool false)], args := [d], vars := [g1] }
  | _ => none }
def FnTurnByWrongFalsely : Prop := fnTurnByRow.holds Tryd.pinned (OpenSpec.ofChange fnTurnByWrong)

/-- 'laws.FnTurnNeg': WHATEVER THE INPUT: true; the input reads as it did. -/
def fnTurnNegSpec : ChangeSpec := { name := "fnTurnNeg", vars := ["loop.example/alidade/impl.errTooGreat"], fn := fun _ => fun
  | [d, g1] => { results := [.lit (.bool true)], args := [d], vars := [g1] }
  | _ => none }
def fnTurnNegRow : OpenClaim := { program := "ytiidbbnclhknpaadoor", sum := "f17fa050b4de66c62dce2c4779d949643bbf747fd48e6f8b449bd0a4d8503740", func := "loop.example/alidade/laws.FnTurnNeg", spec := "fnTurnNeg", inPlace := ["internal/reflectlite.TypeOf"], unfollowed := true, recurses := true, named := ["loop.example/alidade/impl.errTooGreat"], ifaces := true, apart := false, laid := [("loop.example/alidade/impl.errTooGreat", laid_loop_example_alidade_impl_errTooGreat)] }
def FnTurnNegSaid : Prop := fnTurnNegRow.holds Tryd.pinned (OpenSpec.ofChange fnTurnNegSpec)

/-- ITS FALSE NEIGHBOUR: 'it returns false'. Refute it at one input. -/
def fnTurnNegWrong : ChangeSpec := { name := "fnTurnNeg", vars := ["loop.example/alidade/impl.errTooGreat"], fn := fun _ => fun
  | [d, g1] => { results := [.lit (.bool false)], args := [d], vars := [g1] }
  | _ => none }
def FnTurnNegWrongFalsely : Prop := fnTurnNegRow.holds Tryd.pinned (OpenSpec.ofChange fnTurnNegWrong)

/- THE SECOND FORM. 'bulk': how many values and letters a reading holds, each counted each time it is reached (what is shared counts as often as it is met; a slice's spare places count too). A statement '..UptoSaid' is the law's where the arguments, and the package variables that the reading takes, are together of bulk at most 1048576: NARROWER than '..Said'. Prove '..Said' where nothing that the law and all that it calls make is longer than what came in: it says more and counts as full. Else prove '..UptoSaid'. A law counts once. -/
mutual
def uptoBulk {H : Type} : DataW H → Nat
  | .lit (.string bytes) => bytes.length + 1
  | .lit _ => 1
  | .nil => 1
  | .ptr d => uptoBulk d + 1
  | .slice elems spare => uptoBulkAll elems + uptoBulkAll spare + 1
  | .agg parts => uptoBulkAll parts + 1
  | .iface _ d => uptoBulk d + 1
  | .map entries => uptoBulkEntries entries + 1
  | .held _ => 1
def uptoBulkAll {H : Type} : List (DataW H) → Nat
  | [] => 0
  | d :: r => uptoBulk d + uptoBulkAll r
def uptoBulkEntries {H : Type} : List (Lit × DataW H) → Nat
  | [] => 0
  | x :: r => uptoBulkEntry x + uptoBulkEntries r
def uptoBulkEntry {H : Type} : Lit × DataW H → Nat
  | (.string bytes, d) => bytes.length + uptoBulk d + 1
  | (_, d) => uptoBulk d + 1
 end
def uptoSmall : (H : Type) → List (DataW H) → Bool := fun _ ds => decide (uptoBulkAll ds ≤ 1048576)
def OpenSpec.upto (s : _root_.Go.ChangeSpec) : _root_.Go.OpenSpec := { _root_.Go.OpenSpec.ofChange s with cond := some uptoSmall }

/-- 'laws.FnTurnBy', WHERE WHAT IT READS IS OF BULK AT MOST 1048576: true; the input reads as it did. -/
def fnTurnByUptoRow : OpenClaim := { program := "ytiidbbnclhknpaadoor", sum := "f17fa050b4de66c62dce2c4779d949643bbf747fd48e6f8b449bd0a4d8503740", func := "loop.example/alidade/laws.FnTurnBy", spec := "fnTurnBy", inPlace := ["internal/reflectlite.TypeOf"], unfollowed := true, recurses := true, named := ["loop.example/alidade/impl.errTooGreat"], ifaces := true, apart := false, laid := [("loop.example/alidade/impl.errTooGreat", laid_loop_example_alidade_impl_errTooGreat)], narrowed := true }
def FnTurnByUptoSaid : Prop := fnTurnByUptoRow.holds Tryd.pinned (OpenSpec.upto fnTurnBySpec)

/-- 'laws.FnTurnNeg', WHERE WHAT IT READS IS OF BULK AT MOST 1048576: true; the input reads as it did. -/
def fnTurnNegUptoRow : OpenClaim := { program := "ytiidbbnclhknpaadoor", sum := "f17fa050b4de66c62dce2c4779d949643bbf747fd48e6f8b449bd0a4d8503740", func := "loop.example/alidade/laws.FnTurnNeg", spec := "fnTurnNeg", inPlace := ["internal/reflectlite.TypeOf"], unfollowed := true, recurses := true, named := ["loop.example/alidade/impl.errTooGreat"], ifaces := true, apart := false, laid := [("loop.example/alidade/impl.errTooGreat", laid_loop_example_alidade_impl_errTooGreat)], narrowed := true }
def FnTurnNegUptoSaid : Prop := fnTurnNegUptoRow.holds Tryd.pinned (OpenSpec.upto fnTurnNegSpec)

end Rows
end Go.Proofs.YtiidbbnclhknpaaDoor
