/-
  NARROWER THAN 'FOR EVERY INPUT', by the rows' own cells (each row's printed sentence says how): FnSpanRootBack: ifaces, laid · FnSpanRootMore: ifaces, laid · FnSureRound: ifaces, laid · FnSureNot: ifaces, laid · FnSureLess: ifaces, laid · FnSureSign: ifaces, laid.
  DERIVED. THE GIVEN ROWS OF THIS SEAT. 6 by the template 'for every input the law returns true; each argument reads behind the call as it read before'; 0 by the template 'total and deterministic' (their statements: YtldogjldnckdmaeDoorTotals.lean).
  GIVEN WITH THE SEED: the statements are not yours to turn. If you find one false, say at which input.
  Laid BY PROGRAM, IN A SANDBOX (cutbox-rows.mjs): the forced cells as the released guide's own fill.sh prints them over the translation 26fa00bbcff14524… (all of the seat's roots in one cut). By AI agents, Wed Nov 11 2026. No macro, syntax, notation, axiom, sorry.
-/
import Derived.Test.YtldogjldnckdmaeDoorChecked
import GoSem.Claim
import GoSem.ClaimJoined
import GoSem.ClaimMapViews
import Derived.JoinedTies
import Derived.KernelRfl
namespace Go.Proofs.YtldogjldnckdmaeDoor
/- THE CELL 'sum', in the pinned program and in every row, IS THE sha256 OF THE DUMP (.gsa) THAT YtldogjldnckdmaeDoorProg.lean LOADS. Nothing in Lean hashes anything: it is a label: what it is worth is what the hold of that sum in a sandbox is worth. -/
noncomputable def Tryd.pinned : Pinned := { name := "ytldogjldnckdmaedoor", sum := "26fa00bbcff14524ef4fea6ef667b75c2480b8d4d27a0c7b2e1b7069df614f2a", checked := Tryd.checked }
namespace Rows
def none {H : Type} : Left H := { results := [], args := [] }

/- WHAT THE LISTED PACKAGE-LEVEL VARIABLES READ AS WHEN THE CALL BEGINS. Each datum BY PROGRAM (the guide's laid-datum.mjs) off the statement by which the dump's own 'gosem.cut.vars' lays the variable. In a bare row this is a premise. The card (YtldogjldnckdmaeDoorCards.lean) ties it to the program's text. -/
def laid_loop_example_alidade_impl_errTooGreat {H : Type} : DataW H := .iface "*errors.errorString" (.ptr (.agg [.lit (.string [97, 32, 115, 112, 97, 110, 32, 104, 97, 115, 32, 97, 110, 32, 101, 110, 100, 32, 98, 101, 121, 111, 110, 100, 32, 83, 112, 97, 110, 77, 97, 120])]))

/-- 'laws.FnSpanRootBack': WHATEVER THE INPUT: true; the input reads as it did. -/
def fnSpanRootBackSpec : ChangeSpec := { name := "fnSpanRootBack", vars := ["loop.example/alidade/impl.errTooGreat"], fn := fun _ => fun
  | [d, g1] => { results := [.lit (.bool true)], args := [d], vars := [g1] }
  | _ => none }
def fnSpanRootBackRow : OpenClaim := { program := "ytldogjldnckdmaedoor", sum := "26fa00bbcff14524ef4fea6ef667b75c2480b8d4d27a0c7b2e1b7069df614f2a", func := "loop.example/alidade/laws.FnSpanRootBack", spec := "fnSpanRootBack", inPlace := ["internal/reflectlite.TypeOf"], unfollowed := true, recurses := true, named := ["loop.example/alidade/impl.errTooGreat"], ifaces := true, apart := false, laid := [("loop.example/alidade/impl.errTooGreat", laid_loop_example_alidade_impl_errTooGreat)] }
def FnSpanRootBackSaid : Prop := fnSpanRootBackRow.holds Tryd.pinned (OpenSpec.ofChange fnSpanRootBackSpec)

/-- ITS FALSE NEIGHBOUR: 'it returns false'. Refute it at one input. -/
def fnSpanRootBackWrong : ChangeSpec := { name := "fnSpanRootBack", vars := ["loop.example/alidade/impl.errTooGreat"], fn := fun _ => fun
  | [d, g1] => { results := [.lit (.bool false)], args := [d], vars := [g1] }
  | _ => none }
def FnSpanRootBackWrongFalsely : Prop := fnSpanRootBackRow.holds Tryd.pinned (OpenSpec.ofChange fnSpanRootBackWrong)

/-- 'laws.FnSpanRootMore': WHATEVER THE INPUT: true; the input reads as it did. -/
def fnSpanRootMoreSpec : ChangeSpec := { name := "fnSpanRootMore", vars := ["loop.example/alidade/impl.errTooGreat"], fn := fun _ => fun
  | [d1, d2, g1] => { results := [.lit (.bool true)], args := [d1, d2], vars := [g1] }
  | _ => none }
def fnSpanRootMoreRow : OpenClaim := { program := "ytldogjldnckdmaedoor", sum := "26fa00bbcff14524ef4fea6ef667b75c2480b8d4d27a0c7b2e1b7069df614f2a", func := "loop.example/alidade/laws.FnSpanRootMore", spec := "fnSpanRootMore", inPlace := ["internal/reflectlite.TypeOf"], unfollowed := true, recurses := true, named := ["loop.example/alidade/impl.errTooGreat"], ifaces := true, apart := false, laid := [("loop.example/alidade/impl.errTooGreat", laid_loop_example_alidade_impl_errTooGreat)] }
def FnSpanRootMoreSaid : Prop := fnSpanRootMoreRow.holds Tryd.pinned (OpenSpec.ofChange fnSpanRootMoreSpec)

/-- ITS FALSE NEIGHBOUR: 'it returns false'. Refute it at one input. -/
def fnSpanRootMoreWrong : ChangeSpec := { name := "fnSpanRootMore", vars := ["loop.example/alidade/impl.errTooGreat"], fn := fun _ => fun
  | [d1, d2, g1] => { results := [.lit (.bool false)], args := [d1, d2], vars := [g1] }
  | _ => none }
def FnSpanRootMoreWrongFalsely : Prop := fnSpanRootMoreRow.holds Tryd.pinned (OpenSpec.ofChange fnSpanRootMoreWrong)

/-- 'laws.FnSureRound': WHATEVER THE INPUT: true; the input reads as it did. -/
def fnSureRoundSpec : ChangeSpec := { name := "fnSureRound", vars := ["loop.example/alidade/impl.errTooGreat"], fn := fun _ => fun
  | [d1, d2, g1] => { results := [.lit (.bool true)], args := [d1, d2], vars := [g1] }
  | _ => none }
def fnSureRoundRow : OpenClaim := { program := "ytldogjldnckdmaedoor", sum := "26fa00bbcff14524ef4fea6ef667b75c2480b8d4d27a0c7b2e1b7069df614f2a", func := "loop.example/alidade/laws.FnSureRound", spec := "fnSureRound", inPlace := ["internal/reflectlite.TypeOf"], unfollowed := true, recurses := true, named := ["loop.example/alidade/impl.errTooGreat"], ifaces := true, apart := false, laid := [("loop.example/alidade/impl.errTooGreat", laid_loop_example_alidade_impl_errTooGreat)] }
def FnSureRoundSaid : Prop := fnSureRoundRow.holds Tryd.pinned (OpenSpec.ofChange fnSureRoundSpec)

/-- ITS FALSE NEIGHBOUR: 'it returns false'. Refute it at one input. -/
def fnSureRoundWrong : ChangeSpec := { name := "fnSureRound", vars := ["loop.example/alidade/impl.errTooGreat"], fn := fun _ => fun
  | [d1, d2, g1] => { results := [.lit (.bool false)], args := [d1, d2], vars := [g1] }
  | _ => none }
def FnSureRoundWrongFalsely : Prop := fnSureRoundRow.holds Tryd.pinned (OpenSpec.ofChange fnSureRoundWrong)

/-- 'laws.FnSureNot': WHATEVER THE INPUT: true; the input reads as it did. -/
def fnSureNotSpec : ChangeSpec := { name := "fnSureNot", vars := ["loop.example/alidade/impl.errTooGreat"], fn := fun _ => fun
  | [d, g1] => { results := [.lit (.bool true)], args := [d], vars := [g1] }
  | _ => none }
def fnSureNotRow : OpenClaim := { program := "ytldogjldnckdmaedoor", sum := "26fa00bbcff14524ef4fea6ef667b75c2480b8d4d27a0c7b2e1b7069df614f2a", func := "loop.example/alidade/laws.FnSureNot", spec := "fnSureNot", inPlace := ["internal/reflectlite.TypeOf"], unfollowed := true, recurses := true, named := ["loop.example/alidade/impl.errTooGreat"], ifaces := true, apart := false, laid := [("loop.example/alidade/impl.errTooGreat", laid_loop_example_alidade_impl_errTooGreat)] }
def FnSureNotSaid : Prop := fnSureNotRow.holds Tryd.pinned (OpenSpec.ofChange fnSureNotSpec)

/-- ITS FALSE NEIGHBOUR: 'it returns false'. Refute it at one input. -/
def fnSureNotWrong : ChangeSpec := { name := "fnSureNot", vars := ["loop.example/alidade/impl.errTooGreat"], fn := fun _ => fun
  | [d, g1] => { results := [.lit (.bool false)], args := [d], vars := [g1] }
  | _ => none }
def FnSureNotWrongFalsely : Prop := fnSureNotRow.holds Tryd.pinned (OpenSpec.ofChange fnSureNotWrong)

/-- 'laws.FnSureLess': WHATEVER THE INPUT: true; the input reads as it did. -/
def fnSureLessSpec : ChangeSpec := { name := "fnSureLess", vars := ["loop.example/alidade/impl.errTooGreat"], fn := fun _ => fun
  | [d1, d2, g1] => { results := [.lit (.bool true)], args := [d1, d2], vars := [g1] }
  | _ => none }
def fnSureLessRow : OpenClaim := { program := "ytldogjldnckdmaedoor", sum := "26fa00bbcff14524ef4fea6ef667b75c2480b8d4d27a0c7b2e1b7069df614f2a", func := "loop.example/alidade/laws.FnSureLess", spec := "fnSureLess", inPlace := ["internal/reflectlite.TypeOf"], unfollowed := true, recurses := true, named := ["loop.example/alidade/impl.errTooGreat"], ifaces := true, apart := false, laid := [("loop.example/alidade/impl.errTooGreat", laid_loop_example_alidade_impl_errTooGreat)] }
def FnSureLessSaid : Prop := fnSureLessRow.holds Tryd.pinned (OpenSpec.ofChange fnSureLessSpec)

/-- ITS FALSE NEIGHBOUR: 'it returns false'. Refute it at one input. -/
def fnSureLessWrong : ChangeSpec := { name := "fnSureLess", vars := ["loop.example/alidade/impl.errTooGreat"], fn := fun _ => fun
  | [d1, d2, g1] => { results := [.lit (.bool false)], args := [d1, d2], vars := [g1] }
  | _ => none }
def FnSureLessWrongFalsely : Prop := fnSureLessRow.holds Tryd.pinned (OpenSpec.ofChange fnSureLessWrong)

/-- 'laws.FnSureSign': WHATEVER THE INPUT: true; the input reads as it did. -/
def fnSureSignSpec : ChangeSpec := { name := "fnSureSign", vars := ["loop.example/alidade/impl.errTooGreat"], fn := fun _ => fun
  | [d1, d2, g1] => { results := [.lit (.bool true)], args := [d1, d2], vars := [g1] }
  | _ => none }
def fnSureSignRow : OpenClaim := { program := "ytldogjldnckdmaedoor", sum := "26fa00bbcff14524ef4fea6ef667b75c2480b8d4d27a0c7b2e1b7069df614f2a", func := "loop.example/alidade/laws.FnSureSign", spec := "fnSureSign", inPlace := ["internal/reflectlite.TypeOf"], unfollowed := true, recurses := true, named := ["loop.example/alidade/impl.errTooGreat"], ifaces := true, apart := false, laid := [("loop.example/alidade/impl.errTooGreat", laid_loop_example_alidade_impl_errTooGreat)] }
def FnSureSignSaid : Prop := fnSureSignRow.holds Tryd.pinned (OpenSpec.ofChange fnSureSignSpec)

/-- ITS FALSE NEIGHBOUR: 'it returns false'. Refute it at one input. -/
def fnSureSignWrong : ChangeSpec := { name := "fnSureSign", vars := ["loop.example/alidade/impl.errTooGreat"], fn := fun _ => fun
  | [d1, d2, g1] => { results := [.lit (.bool false)], args := [d1, d2], vars := [g1] }
  | _ => none }
def FnSureSignWrongFalsely : Prop := fnSureSignRow.holds Tryd.pinned (OpenSpec.ofChange fnSureSignWrong)

/- THE SECOND FORM. 'bulk': how many values and letters a reading holds, each counted each time it is reached (what is shared counts as often as it is met; a slice's spare places count too). A statement '..UptoSaid' is the law's where the arguments, and the package variables that the reading takes, are together of bulk at most 1048576: NARROWER than '..Said'. Prove '..Said' where nothing that the law and all that it calls make is longer than what came in: it says more and counts as full. Else prove '..UptoSaid'. A law counts once. -/
mutual
def uptoBulk {H : Type} : DataW H → Nat
  | .lit (.string bytes) => bytes.length + 1
  | .lit _ => 1
  | .nil => 1
  | .ptr d => uptoBulk d + 1
  | .slice elems spare => uptoBulkAll elems + uptoBulkAll spare + 1
  | .agg parts => uptoBulkAll parts + 1
  | .iface _ d => uptoBulk d + 1
  | .map entries => uptoBulkEntries entries + 1
  | .held _ => 1
def uptoBulkAll {H : Type} : List (DataW H) → Nat
  | [] => 0
  | d :: r => uptoBulk d + uptoBulkAll r
def uptoBulkEntries {H : Type} : List (Lit × DataW H) → Nat
  | [] => 0
  | x :: r => uptoBulkEntry x + uptoBulkEntries r
def uptoBulkEntry {H : Type} : Lit × DataW H → Nat
  | (.string bytes, d) => bytes.length + uptoBulk d + 1
  | (_, d) => uptoBulk d + 1
 end
def uptoSmall : (H : Type) → List (DataW H) → Bool := fun _ ds => decide (uptoBulkAll ds ≤ 1048576)
def OpenSpec.upto (s : _root_.Go.ChangeSpec) : _root_.Go.OpenSpec := { _root_.Go.OpenSpec.ofChange s with cond := some uptoSmall }

/-- 'laws.FnSpanRootBack', WHERE WHAT IT READS IS OF BULK AT MOST 1048576: true; the input reads as it did. -/
def fnSpanRootBackUptoRow : OpenClaim := { program := "ytldogjldnckdmaedoor", sum := "26fa00bbcff14524ef4fea6ef667b75c2480b8d4d27a0c7b2e1b7069df614f2a", func := "loop.example/alidade/laws.FnSpanRootBack", spec := "fnSpanRootBack", inPlace := ["internal/reflectlite.TypeOf"], unfollowed := true, recurses := true, named := ["loop.example/alidade/impl.errTooGreat"], ifaces := true, apart := false, laid := [("loop.example/alidade/impl.errTooGreat", laid_loop_example_alidade_impl_errTooGreat)], narrowed := true }
def FnSpanRootBackUptoSaid : Prop := fnSpanRootBackUptoRow.holds Tryd.pinned (OpenSpec.upto fnSpanRootBackSpec)

/-- 'laws.FnSpanRootMore', WHERE WHAT IT READS IS OF BULK AT MOST 1048576: true; the input reads as it did. -/
def fnSpanRootMoreUptoRow : OpenClaim := { program := "ytldogjldnckdmaedoor", sum := "26fa00bbcff14524ef4fea6ef667b75c2480b8d4d27a0c7b2e1b7069df614f2a", func := "loop.example/alidade/laws.FnSpanRootMore", spec := "fnSpanRootMore", inPlace := ["internal/reflectlite.TypeOf"], unfollowed := true, recurses := true, named := ["loop.example/alidade/impl.errTooGreat"], ifaces := true, apart := false, laid := [("loop.example/alidade/impl.errTooGreat", laid_loop_example_alidade_impl_errTooGreat)], narrowed := true }
def FnSpanRootMoreUptoSaid : Prop := fnSpanRootMoreUptoRow.holds Tryd.pinned (OpenSpec.upto fnSpanRootMoreSpec)

/-- 'laws.FnSureRound', WHERE WHAT IT READS IS OF BULK AT MOST 1048576: true; the input reads as it did. -/
def fnSureRoundUptoRow : OpenClaim := { program := "ytldogjldnckdmaedoor", sum := "26fa00bbcff14524ef4fea6ef667b75c2480b8d4d27a0c7b2e1b7069df614f2a", func := "loop.example/alidade/laws.FnSureRound", spec := "fnSureRound", inPlace := ["internal/reflectlite.TypeOf"], unfollowed := true, recurses := true, named := ["loop.example/alidade/impl.errTooGreat"], ifaces := true, apart := false, laid := [("loop.example/alidade/impl.errTooGreat", laid_loop_example_alidade_impl_errTooGreat)], narrowed := true }
def FnSureRoundUptoSaid : Prop := fnSureRoundUptoRow.holds Tryd.pinned (OpenSpec.upto fnSureRoundSpec)

/-- 'laws.FnSureNot', WHERE WHAT IT READS IS OF BULK AT MOST 1048576: true; the input reads as it did. -/
def fnSureNotUptoRow : OpenClaim := { program := "ytldogjldnckdmaedoor", sum := "26fa00bbcff14524ef4fea6ef667b75c2480b8d4d27a0c7b2e1b7069df614f2a", func := "loop.example/alidade/laws.FnSureNot", spec := "fnSureNot", inPlace := ["internal/reflectlite.TypeOf"], unfollowed := true, recurses := true, named := ["loop.example/alidade/impl.errTooGreat"], ifaces := true, apart := false, laid := [("loop.example/alidade/impl.errTooGreat", laid_loop_example_alidade_impl_errTooGreat)], narrowed := true }
def FnSureNotUptoSaid : Prop := fnSureNotUptoRow.holds Tryd.pinned (OpenSpec.upto fnSureNotSpec)

/-- 'laws.FnSureLess', WHERE WHAT IT READS IS OF BULK AT MOST 1048576: true; the input reads as it did. -/
def fnSureLessUptoRow : OpenClaim := { program := "ytldogjldnckdmaedoor", sum := "26fa00bbcff14524ef4fea6ef667b75c2480b8d4d27a0c7b2e1b7069df614f2a", func := "loop.example/alidade/laws.FnSureLess", spec := "fnSureLess", inPlace := ["internal/reflectlite.TypeOf"], unfollowed := true, recurses := true, named := ["loop.example/alidade/impl.errTooGreat"], ifaces := true, apart := false, laid := [("loop.example/alidade/impl.errTooGreat", laid_loop_example_alidade_impl_errTooGreat)], narrowed := true }
def FnSureLessUptoSaid : Prop := fnSureLessUptoRow.holds Tryd.pinned (OpenSpec.upto fnSureLessSpec)

/-- 'laws.FnSureSign', WHERE WHAT IT READS IS OF BULK AT MOST 1048576: true; the input reads as it did. -/
def fnSureSignUptoRow : OpenClaim := { program := "ytldogjldnckdmaedoor", sum := "26fa00bbcff14524ef4fea6ef667b75c2480b8d4d27a0c7b2e1b7069df614f2a", func := "loop.example/alidade/laws.FnSureSign", spec := "fnSureSign", inPlace := ["internal/reflectlite.TypeOf"], unfollowed := true, recurses := true, named := ["loop.example/alidade/impl.errTooGreat"], ifaces := true, apart := false, laid := [("loop.example/alidade/impl.errTooGreat", laid_loop_example_alidade_impl_errTooGreat)], narrowed := true }
def FnSureSignUptoSaid : Prop := fnSureSignUptoRow.holds Tryd.pinned (OpenSpec.upto fnSureSignSpec)

end Rows
end Go.Proofs.YtldogjldnckdmaeDoor
