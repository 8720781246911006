/-
  NARROWER THAN 'FOR EVERY INPUT', by the rows' own cells (each row's printed sentence says how): FnExactSpotDist: ifaces, laid · FnExactSpotNear: ifaces, laid.
  DERIVED. THE GIVEN ROWS OF THIS SEAT. 2 by the template 'for every input the law returns true; each argument reads behind the call as it read before'; 0 by the template 'total and deterministic' (their statements: YtfdkpcejjcifgauDoorTotals.lean).
  GIVEN WITH THE SEED: the statements are not yours to turn. If you find one false, say at which input.
  Laid BY PROGRAM, IN A SANDBOX (cutbox-rows.mjs): the forced cells as the released guide's own fill.sh prints them over the translation daee131353efc3c5… (all of the seat's roots in one cut). By AI agents, Wed Nov 11 2026. No macro, syntax, notation, axiom, sorry.
-/
import Derived.Test.YtfdkpcejjcifgauDoorChecked
import GoSem.Claim
import GoSem.ClaimJoined
import GoSem.ClaimMapViews
import Derived.JoinedTies
import Derived.KernelRfl
namespace Go.Proofs.YtfdkpcejjcifgauDoor
/- THE CELL 'sum', in the pinned program and in every row, IS THE sha256 OF THE DUMP (.gsa) THAT YtfdkpcejjcifgauDoorProg.lean LOADS. Nothing in Lean hashes anything: it is a label: what it is worth is what the hold of that sum in a sandbox is worth. -/
noncomputable def Tryd.pinned : Pinned := { name := "ytfdkpcejjcifgaudoor", sum := "daee131353efc3c588d746c8a958c9ea9a36aff50e55432e74ee81a074117eea", checked := Tryd.checked }
namespace Rows
def none {H : Type} : Left H := { results := [], args := [] }

/- WHAT THE LISTED PACKAGE-LEVEL VARIABLES READ AS WHEN THE CALL BEGINS. Each datum BY PROGRAM (the guide's laid-datum.mjs) off the statement by which the dump's own 'gosem.cut.vars' lays the variable. In a bare row this is a premise. The card (YtfdkpcejjcifgauDoorCards.lean) ties it to the program's text. -/
def laid_loop_example_alidade_impl_errTooGreat {H : Type} : DataW H := .iface "*errors.errorString" (.ptr (.agg [.lit (.string [97, 32, 115, 112, 97, 110, 32, 104, 97, 115, 32, 97, 110, 32, 101, 110, 100, 32, 98, 101, 121, 111, 110, 100, 32, 83, 112, 97, 110, 77, 97, 120])]))

/-- 'laws.FnExactSpotDist': WHATEVER THE INPUT: true; the input reads as it did. -/
def fnExactSpotDistSpec : ChangeSpec := { name := "fnExactSpotDist", vars := ["loop.example/alidade/impl.errTooGreat"], fn := fun _ => fun
  | [d1, d2, g1] => { results := [.lit (.bool true)], args := [d1, d2], vars := [g1] }
  | _ => none }
def fnExactSpotDistRow : OpenClaim := { program := "ytfdkpcejjcifgaudoor", sum := "daee131353efc3c588d746c8a958c9ea9a36aff50e55432e74ee81a074117eea", func := "loop.example/alidade/laws.FnExactSpotDist", spec := "fnExactSpotDist", inPlace := ["internal/reflectlite.TypeOf"], unfollowed := true, recurses := true, named := ["loop.example/alidade/impl.errTooGreat"], ifaces := true, apart := false, laid := [("loop.example/alidade/impl.errTooGreat", laid_loop_example_alidade_impl_errTooGreat)] }
def FnExactSpotDistSaid : Prop := fnExactSpotDistRow.holds Tryd.pinned (OpenSpec.ofChange fnExactSpotDistSpec)

/-- ITS FALSE NEIGHBOUR: 'it returns false'. Refute it at one input. -/
def fnExactSpotDistWrong : ChangeSpec := { name := "fnExactSpotDist", vars := ["loop.example/alidade/impl.errTooGreat"], fn := fun _ => fun
  | [d1, d2, g1] => { results := [.lit (.bool false)], args := [d1, d2], vars := [g1] }
  | _ => none }
def FnExactSpotDistWrongFalsely : Prop := fnExactSpotDistRow.holds Tryd.pinned (OpenSpec.ofChange fnExactSpotDistWrong)

/-- 'laws.FnExactSpotNear': WHATEVER THE INPUT: true; the input reads as it did. -/
def fnExactSpotNearSpec : ChangeSpec := { name := "fnExactSpotNear", vars := ["loop.example/alidade/impl.errTooGreat"], fn := fun _ => fun
  | [d1, d2, d3, g1] => { results := [.lit (.bool true)], args := [d1, d2, d3], vars := [g1] }
  | _ => none }
def fnExactSpotNearRow : OpenClaim := { program := "ytfdkpcejjcifgaudoor", sum := "daee131353efc3c588d746c8a958c9ea9a36aff50e55432e74ee81a074117eea", func := "loop.example/alidade/laws.FnExactSpotNear", spec := "fnExactSpotNear", inPlace := ["internal/reflectlite.TypeOf"], unfollowed := true, recurses := true, named := ["loop.example/alidade/impl.errTooGreat"], ifaces := true, apart := false, laid := [("loop.example/alidade/impl.errTooGreat", laid_loop_example_alidade_impl_errTooGreat)] }
def FnExactSpotNearSaid : Prop := fnExactSpotNearRow.holds Tryd.pinned (OpenSpec.ofChange fnExactSpotNearSpec)

/-- ITS FALSE NEIGHBOUR: 'it returns false'. Refute it at one input. -/
def fnExactSpotNearWrong : ChangeSpec := { name := "fnExactSpotNear", vars := ["loop.example/alidade/impl.errTooGreat"], fn := fun _ => fun
  | [d1, d2, d3, g1] => { results := [.lit (.bool false)], args := [d1, d2, d3], vars := [g1] }
  | _ => none }
def FnExactSpotNearWrongFalsely : Prop := fnExactSpotNearRow.holds Tryd.pinned (OpenSpec.ofChange fnExactSpotNearWrong)

/- THE SECOND FORM. 'bulk': how many values and letters a reading holds, each counted each time it is reached (what is shared counts as often as it is met; a slice's spare places count too). A statement '..UptoSaid' is the law's where the arguments, and the package variables that the reading takes, are together of bulk at most 1048576: NARROWER than '..Said'. Prove '..Said' where nothing that the law and all that it calls make is longer than what came in: it says more and counts as full. Else prove '..UptoSaid'. A law counts once. -/
mutual
def uptoBulk {H : Type} : DataW H → Nat
  | .lit (.string bytes) => bytes.length + 1
  | .lit _ => 1
  | .nil => 1
  | .ptr d => uptoBulk d + 1
  | .slice elems spare => uptoBulkAll elems + uptoBulkAll spare + 1
  | .agg parts => uptoBulkAll parts + 1
  | .iface _ d => uptoBulk d + 1
  | .map entries => uptoBulkEntries entries + 1
  | .held _ => 1
def uptoBulkAll {H : Type} : List (DataW H) → Nat
  | [] => 0
  | d :: r => uptoBulk d + uptoBulkAll r
def uptoBulkEntries {H : Type} : List (Lit × DataW H) → Nat
  | [] => 0
  | x :: r => uptoBulkEntry x + uptoBulkEntries r
def uptoBulkEntry {H : Type} : Lit × DataW H → Nat
  | (.string bytes, d) => bytes.length + uptoBulk d + 1
  | (_, d) => uptoBulk d + 1
 end
def uptoSmall : (H : Type) → List (DataW H) → Bool := fun _ ds => decide (uptoBulkAll ds ≤ 1048576)
def OpenSpec.upto (s : _root_.Go.ChangeSpec) : _root_.Go.OpenSpec := { _root_.Go.OpenSpec.ofChange s with cond := some uptoSmall }

/-- 'laws.FnExactSpotDist', WHERE WHAT IT READS IS OF BULK AT MOST 1048576: true; the input reads as it did. -/
def fnExactSpotDistUptoRow : OpenClaim := { program := "ytfdkpcejjcifgaudoor", sum := "daee131353efc3c588d746c8a958c9ea9a36aff50e55432e74ee81a074117eea", func := "loop.example/alidade/laws.FnExactSpotDist", spec := "fnExactSpotDist", inPlace := ["internal/reflectlite.TypeOf"], unfollowed := true, recurses := true, named := ["loop.example/alidade/impl.errTooGreat"], ifaces := true, apart := false, laid := [("loop.example/alidade/impl.errTooGreat", laid_loop_example_alidade_impl_errTooGreat)], narrowed := true }
def FnExactSpotDistUptoSaid : Prop := fnExactSpotDistUptoRow.holds Tryd.pinned (OpenSpec.upto fnExactSpotDistSpec)

/-- 'laws.FnExactSpotNear', WHERE WHAT IT READS IS OF BULK AT MOST 1048576: true; the input reads as it did. -/
def fnExactSpotNearUptoRow : OpenClaim := { program := "ytfdkpcejjcifgaudoor", sum := "daee131353efc3c588d746c8a958c9ea9a36aff50e55432e74ee81a074117eea", func := "loop.example/alidade/laws.FnExactSpotNear", spec := "fnExactSpotNear", inPlace := ["internal/reflectlite.TypeOf"], unfollowed := true, recurses := true, named := ["loop.example/alidade/impl.errTooGreat"], ifaces := true, apart := false, laid := [("loop.example/alidade/impl.errTooGreat", laid_loop_example_alidade_impl_errTooGreat)], narrowed := true }
def FnExactSpotNearUptoSaid : Prop := fnExactSpotNearUptoRow.holds Tryd.pinned (OpenSpec.upto fnExactSpotNearSpec)

end Rows
end Go.Proofs.YtfdkpcejjcifgauDoor
