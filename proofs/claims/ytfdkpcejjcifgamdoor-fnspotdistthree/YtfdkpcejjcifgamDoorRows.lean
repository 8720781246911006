/-
  NARROWER THAN 'FOR EVERY INPUT', by the rows' own cells (each row's printed sentence says how): FnSpotDist: ifaces, laid · FnSpotDistUp: ifaces, laid · FnSpotDistAround: ifaces, laid · FnSpotDistFar: ifaces, laid · FnSpotDistThree: ifaces, laid.
  DERIVED. THE GIVEN ROWS OF THIS SEAT. 5 by the template 'for every input the law returns true; each argument reads behind the call as it read before'; 0 by the template 'total and deterministic' (their statements: YtfdkpcejjcifgamDoorTotals.lean).
  GIVEN WITH THE SEED: the statements are not yours to turn. If you find one false, say at which input.
  Laid BY PROGRAM, IN A SANDBOX (cutbox-rows.mjs): the forced cells as the released guide's own fill.sh prints them over the translation 7e94c7bd8008cdab… (all of the seat's roots in one cut). By AI agents, Wed Nov 11 2026. No macro, syntax, notation, axiom, sorry.
-/
import Derived.Test.YtfdkpcejjcifgamDoorChecked
import GoSem.Claim
import GoSem.ClaimJoined
import GoSem.ClaimMapViews
import Derived.JoinedTies
import Derived.KernelRfl
namespace Go.Proofs.YtfdkpcejjcifgamDoor
/- THE CELL 'sum', in the pinned program and in every row, IS THE sha256 OF THE DUMP (.gsa) THAT YtfdkpcejjcifgamDoorProg.lean LOADS. Nothing in Lean hashes anything: it is a label: what it is worth is what the hold of that sum in a sandbox is worth. -/
noncomputable def Tryd.pinned : Pinned := { name := "ytfdkpcejjcifgamdoor", sum := "7e94c7bd8008cdaba4cf3b15da3f080a99c52c18759a33be8b948c7077bd3bf0", checked := Tryd.checked }
namespace Rows
def none {H : Type} : Left H := { results := [], args := [] }

/- WHAT THE LISTED PACKAGE-LEVEL VARIABLES READ AS WHEN THE CALL BEGINS. Each datum BY PROGRAM (the guide's laid-datum.mjs) off the statement by which the dump's own 'gosem.cut.vars' lays the variable. In a bare row this is a premise. The card (YtfdkpcejjcifgamDoorCards.lean) ties it to the program's text. -/
def laid_loop_example_alidade_impl_errTooGreat {H : Type} : DataW H := .iface "*errors.errorString" (.ptr (.agg [.lit (.string [97, 32, 115, 112, 97, 110, 32, 104, 97, 115, 32, 97, 110, 32, 101, 110, 100, 32, 98, 101, 121, 111, 110, 100, 32, 83, 112, 97, 110, 77, 97, 120])]))

/-- 'laws.FnSpotDist': WHATEVER THE INPUT: true; the input reads as it did. -/
def fnSpotDistSpec : ChangeSpec := { name := "fnSpotDist", vars := ["loop.example/alidade/impl.errTooGreat"], fn := fun _ => fun
  | [d, g1] => { results := [.lit (.bool true)], args := [d], vars := [g1] }
  | _ => none }
def fnSpotDistRow : OpenClaim := { program := "ytfdkpcejjcifgamdoor", sum := "7e94c7bd8008cdaba4cf3b15da3f080a99c52c18759a33be8b948c7077bd3bf0", func := "loop.example/alidade/laws.FnSpotDist", spec := "fnSpotDist", inPlace := ["internal/reflectlite.TypeOf"], unfollowed := true, recurses := true, named := ["loop.example/alidade/impl.errTooGreat"], ifaces := true, apart := false, laid := [("loop.example/alidade/impl.errTooGreat", laid_loop_example_alidade_impl_errTooGreat)] }
def FnSpotDistSaid : Prop := fnSpotDistRow.holds Tryd.pinned (OpenSpec.ofChange fnSpotDistSpec)

/-- ITS FALSE NEIGHBOUR: 'it returns false'. Refute it at one input. -/
def fnSpotDistWrong : ChangeSpec := { name := "fnSpotDist", vars := ["loop.example/alidade/impl.errTooGreat"], fn := fun _ => fun
  | [d, g1] => { results := [.lit (.bool false)], args := [d], vars := [g1] }
  | _ => none }
def FnSpotDistWrongFalsely : Prop := fnSpotDistRow.holds Tryd.pinned (OpenSpec.ofChange fnSpotDistWrong)

/-- 'laws.FnSpotDistUp': WHATEVER THE INPUT: true; the input reads as it did. -/
def fnSpotDistUpSpec : ChangeSpec := { name := "fnSpotDistUp", vars := ["loop.example/alidade/impl.errTooGreat"], fn := fun _ => fun
  | [d, g1] => { results := [.lit (.bool true)], args := [d], vars := [g1] }
  | _ => none }
def fnSpotDistUpRow : OpenClaim := { program := "ytfdkpcejjcifgamdoor", sum := "7e94c7bd8008cdaba4cf3b15da3f080a99c52c18759a33be8b948c7077bd3bf0", func := "loop.example/alidade/laws.FnSpotDistUp", spec := "fnSpotDistUp", inPlace := ["internal/reflectlite.TypeOf"], unfollowed := true, recurses := true, named := ["loop.example/alidade/impl.errTooGreat"], ifaces := true, apart := false, laid := [("loop.example/alidade/impl.errTooGreat", laid_loop_example_alidade_impl_errTooGreat)] }
def FnSpotDistUpSaid : Prop := fnSpotDistUpRow.holds Tryd.pinned (OpenSpec.ofChange fnSpotDistUpSpec)

/-- ITS FALSE NEIGHBOUR: 'it returns false'. Refute it at one input. -/
def fnSpotDistUpWrong : ChangeSpec := { name := "fnSpotDistUp", vars := ["loop.example/alidade/impl.errTooGreat"], fn := fun _ => fun
  | [d, g1] => { results := [.lit (.bool false)], args := [d], vars := [g1] }
  | _ => none }
def FnSpotDistUpWrongFalsely : Prop := fnSpotDistUpRow.holds Tryd.pinned (OpenSpec.ofChange fnSpotDistUpWrong)

/-- 'laws.FnSpotDistAround': WHATEVER THE INPUT: true; the input reads as it did. -/
def fnSpotDistAroundSpec : ChangeSpec := { name := "fnSpotDistAround", vars := ["loop.example/alidade/impl.errTooGreat"], fn := fun _ => fun
  | [d, g1] => { results := [.lit (.bool true)], args := [d], vars := [g1] }
  | _ => none }
def fnSpotDistAroundRow : OpenClaim := { program := "ytfdkpcejjcifgamdoor", sum := "7e94c7bd8008cdaba4cf3b15da3f080a99c52c18759a33be8b948c7077bd3bf0", func := "loop.example/alidade/laws.FnSpotDistAround", spec := "fnSpotDistAround", inPlace := ["internal/reflectlite.TypeOf"], unfollowed := true, recurses := true, named := ["loop.example/alidade/impl.errTooGreat"], ifaces := true, apart := false, laid := [("loop.example/alidade/impl.errTooGreat", laid_loop_example_alidade_impl_errTooGreat)] }
def FnSpotDistAroundSaid : Prop := fnSpotDistAroundRow.holds Tryd.pinned (OpenSpec.ofChange fnSpotDistAroundSpec)

/-- ITS FALSE NEIGHBOUR: 'it returns false'. Refute it at one input. -/
def fnSpotDistAroundWrong : ChangeSpec := { name := "fnSpotDistAround", vars := ["loop.example/alidade/impl.errTooGreat"], fn := fun _ => fun
  | [d, g1] => { results := [.lit (.bool false)], args := [d], vars := [g1] }
  | _ => none }
def FnSpotDistAroundWrongFalsely : Prop := fnSpotDistAroundRow.holds Tryd.pinned (OpenSpec.ofChange fnSpotDistAroundWrong)

/-- 'laws.FnSpotDistFar': WHATEVER THE INPUT: true; the input reads as it did. -/
def fnSpotDistFarSpec : ChangeSpec := { name := "fnSpotDistFar", vars := ["loop.example/alidade/impl.errTooGreat"], fn := fun _ => fun
  | [d, g1] => { results := [.lit (.bool true)], args := [d], vars := [g1] }
  | _ => none }
def fnSpotDistFarRow : OpenClaim := { program := "ytfdkpcejjcifgamdoor", sum := "7e94c7bd8008cdaba4cf3b15da3f080a99c52c18759a33be8b948c7077bd3bf0", func := "loop.example/alidade/laws.FnSpotDistFar", spec := "fnSpotDistFar", inPlace := ["internal/reflectlite.TypeOf"], unfollowed := true, recurses := true, named := ["loop.example/alidade/impl.errTooGreat"], ifaces := true, apart := false, laid := [("loop.example/alidade/impl.errTooGreat", laid_loop_example_alidade_impl_errTooGreat)] }
def FnSpotDistFarSaid : Prop := fnSpotDistFarRow.holds Tryd.pinned (OpenSpec.ofChange fnSpotDistFarSpec)

/-- ITS FALSE NEIGHBOUR: 'it returns false'. Refute it at one input. -/
def fnSpotDistFarWrong : ChangeSpec := { name := "fnSpotDistFar", vars := ["loop.example/alidade/impl.errTooGreat"], fn := fun _ => fun
  | [d, g1] => { results := [.lit (.bool false)], args := [d], vars := [g1] }
  | _ => none }
def FnSpotDistFarWrongFalsely : Prop := fnSpotDistFarRow.holds Tryd.pinned (OpenSpec.ofChange fnSpotDistFarWrong)

/-- 'laws.FnSpotDistThree': WHATEVER THE INPUT: true; the input reads as it did. -/
def fnSpotDistThreeSpec : ChangeSpec := { name := "fnSpotDistThree", vars := ["loop.example/alidade/impl.errTooGreat"], fn := fun _ => fun
  | [d1, d2, g1] => { results := [.lit (.bool true)], args := [d1, d2], vars := [g1] }
  | _ => none }
def fnSpotDistThreeRow : OpenClaim := { program := "ytfdkpcejjcifgamdoor", sum := "7e94c7bd8008cdaba4cf3b15da3f080a99c52c18759a33be8b948c7077bd3bf0", func := "loop.example/alidade/laws.FnSpotDistThree", spec := "fnSpotDistThree", inPlace := ["internal/reflectlite.TypeOf"], unfollowed := true, recurses := true, named := ["loop.example/alidade/impl.errTooGreat"], ifaces := true, apart := false, laid := [("loop.example/alidade/impl.errTooGreat", laid_loop_example_alidade_impl_errTooGreat)] }
def FnSpotDistThreeSaid : Prop := fnSpotDistThreeRow.holds Tryd.pinned (OpenSpec.ofChange fnSpotDistThreeSpec)

/-- ITS FALSE NEIGHBOUR: 'it returns false'. Refute it at one input. -/
def fnSpotDistThreeWrong : ChangeSpec := { name := "fnSpotDistThree", vars := ["loop.example/alidade/impl.errTooGreat"], fn := fun _ => fun
  | [d1, d2, g1] => { results := [.lit (.bool false)], args := [d1, d2], vars := [g1] }
  | _ => none }
def FnSpotDistThreeWrongFalsely : Prop := fnSpotDistThreeRow.holds Tryd.pinned (OpenSpec.ofChange fnSpotDistThreeWrong)

/- THE SECOND FORM. 'bulk': how many values and letters a reading holds, each counted each time it is reached (what is shared counts as often as it is met; a slice's spare places count too). A statement '..UptoSaid' is the law's where the arguments, and the package variables that the reading takes, are together of bulk at most 1048576: NARROWER than '..Said'. Prove '..Said' where nothing that the law and all that it calls make is longer than what came in: it says more and counts as full. Else prove '..UptoSaid'. A law counts once. -/
mutual
def uptoBulk {H : Type} : DataW H → Nat
  | .lit (.string bytes) => bytes.length + 1
  | .lit _ => 1
  | .nil => 1
  | .ptr d => uptoBulk d + 1
  | .slice elems spare => uptoBulkAll elems + uptoBulkAll spare + 1
  | .agg parts => uptoBulkAll parts + 1
  | .iface _ d => uptoBulk d + 1
  | .map entries => uptoBulkEntries entries + 1
  | .held _ => 1
def uptoBulkAll {H : Type} : List (DataW H) → Nat
  | [] => 0
  | d :: r => uptoBulk d + uptoBulkAll r
def uptoBulkEntries {H : Type} : List (Lit × DataW H) → Nat
  | [] => 0
  | x :: r => uptoBulkEntry x + uptoBulkEntries r
def uptoBulkEntry {H : Type} : Lit × DataW H → Nat
  | (.string bytes, d) => bytes.length + uptoBulk d + 1
  | (_, d) => uptoBulk d + 1
 end
def uptoSmall : (H : Type) → List (DataW H) → Bool := fun _ ds => decide (uptoBulkAll ds ≤ 1048576)
def OpenSpec.upto (s : _root_.Go.ChangeSpec) : _root_.Go.OpenSpec := { _root_.Go.OpenSpec.ofChange s with cond := some uptoSmall }

/-- 'laws.FnSpotDist', WHERE WHAT IT READS IS OF BULK AT MOST 1048576: true; the input reads as it did. -/
def fnSpotDistUptoRow : OpenClaim := { program := "ytfdkpcejjcifgamdoor", sum := "7e94c7bd8008cdaba4cf3b15da3f080a99c52c18759a33be8b948c7077bd3bf0", func := "loop.example/alidade/laws.FnSpotDist", spec := "fnSpotDist", inPlace := ["internal/reflectlite.TypeOf"], unfollowed := true, recurses := true, named := ["loop.example/alidade/impl.errTooGreat"], ifaces := true, apart := false, laid := [("loop.example/alidade/impl.errTooGreat", laid_loop_example_alidade_impl_errTooGreat)], narrowed := true }
def FnSpotDistUptoSaid : Prop := fnSpotDistUptoRow.holds Tryd.pinned (OpenSpec.upto fnSpotDistSpec)

/-- 'laws.FnSpotDistUp', WHERE WHAT IT READS IS OF BULK AT MOST 1048576: true; the input reads as it did. -/
def fnSpotDistUpUptoRow : OpenClaim := { program := "ytfdkpcejjcifgamdoor", sum := "7e94c7bd8008cdaba4cf3b15da3f080a99c52c18759a33be8b948c7077bd3bf0", func := "loop.example/alidade/laws.FnSpotDistUp", spec := "fnSpotDistUp", inPlace := ["internal/reflectlite.TypeOf"], unfollowed := true, recurses := true, named := ["loop.example/alidade/impl.errTooGreat"], ifaces := true, apart := false, laid := [("loop.example/alidade/impl.errTooGreat", laid_loop_example_alidade_impl_errTooGreat)], narrowed := true }
def FnSpotDistUpUptoSaid : Prop := fnSpotDistUpUptoRow.holds Tryd.pinned (OpenSpec.upto fnSpotDistUpSpec)

/-- 'laws.FnSpotDistAround', WHERE WHAT IT READS IS OF BULK AT MOST 1048576: true; the input reads as it did. -/
def fnSpotDistAroundUptoRow : OpenClaim := { program := "ytfdkpcejjcifgamdoor", sum := "7e94c7bd8008cdaba4cf3b15da3f080a99c52c18759a33be8b948c7077bd3bf0", func := "loop.example/alidade/laws.FnSpotDistAround", spec := "fnSpotDistAround", inPlace := ["internal/reflectlite.TypeOf"], unfollowed := true, recurses := true, named := ["loop.example/alidade/impl.errTooGreat"], ifaces := true, apart := false, laid := [("loop.example/alidade/impl.errTooGreat", laid_loop_example_alidade_impl_errTooGreat)], narrowed := true }
def FnSpotDistAroundUptoSaid : Prop := fnSpotDistAroundUptoRow.holds Tryd.pinned (OpenSpec.upto fnSpotDistAroundSpec)

/-- 'laws.FnSpotDistFar', WHERE WHAT IT READS IS OF BULK AT MOST 1048576: true; the input reads as it did. -/
def fnSpotDistFarUptoRow : OpenClaim := { program := "ytfdkpcejjcifgamdoor", sum := "7e94c7bd8008cdaba4cf3b15da3f080a99c52c18759a33be8b948c7077bd3bf0", func := "loop.example/alidade/laws.FnSpotDistFar", spec := "fnSpotDistFar", inPlace := ["internal/reflectlite.TypeOf"], unfollowed := true, recurses := true, named := ["loop.example/alidade/impl.errTooGreat"], ifaces := true, apart := false, laid := [("loop.example/alidade/impl.errTooGreat", laid_loop_example_alidade_impl_errTooGreat)], narrowed := true }
def FnSpotDistFarUptoSaid : Prop := fnSpotDistFarUptoRow.holds Tryd.pinned (OpenSpec.upto fnSpotDistFarSpec)

/-- 'laws.FnSpotDistThree', WHERE WHAT IT READS IS OF BULK AT MOST 1048576: true; the input reads as it did. -/
def fnSpotDistThreeUptoRow : OpenClaim := { program := "ytfdkpcejjcifgamdoor", sum := "7e94c7bd8008cdaba4cf3b15da3f080a99c52c18759a33be8b948c7077bd3bf0", func := "loop.example/alidade/laws.FnSpotDistThree", spec := "fnSpotDistThree", inPlace := ["internal/reflectlite.TypeOf"], unfollowed := true, recurses := true, named := ["loop.example/alidade/impl.errTooGreat"], ifaces := true, apart := false, laid := [("loop.example/alidade/impl.errTooGreat", laid_loop_example_alidade_impl_errTooGreat)], narrowed := true }
def FnSpotDistThreeUptoSaid : Prop := fnSpotDistThreeUptoRow.holds Tryd.pinned (OpenSpec.upto fnSpotDistThreeSpec)

end Rows
end Go.Proofs.YtfdkpcejjcifgamDoor
