/-
  NARROWER THAN 'FOR EVERY INPUT', by the rows' own cells (each row's printed sentence says how): FnSpanHull: ifaces, laid · FnSpanMeet: ifaces, laid · FnSpanNeg: ifaces, laid · FnSpanAdd: ifaces, laid · FnSpanSub: ifaces, laid · FnSpanMul: ifaces, laid.
  DERIVED. THE GIVEN ROWS OF THIS SEAT. 6 by the template 'for every input the law returns true; each argument reads behind the call as it read before'; 0 by the template 'total and deterministic' (their statements: YtldogjldnckdmacDoorTotals.lean).
  GIVEN WITH THE SEED: the statements are not yours to turn. If you find one false, say at which input.
  Laid BY PROGRAM, IN A SANDBOX (cutbox-rows.mjs): the forced cells as the released guide's own fill.sh prints them over the translation d790c656be18079c… (all of the seat's roots in one cut). By AI agents, Wed Nov 11 2026. No macro, syntax, notation, axiom, sorry.
-/
import Derived.Test.YtldogjldnckdmacDoorChecked
import GoSem.Claim
import GoSem.ClaimJoined
import GoSem.ClaimMapViews
import Derived.JoinedTies
import Derived.KernelRfl
namespace Go.Proofs.YtldogjldnckdmacDoor
/- THE CELL 'sum', in the pinned program and in every row, IS THE sha256 OF THE DUMP (.gsa) THAT YtldogjldnckdmacDoorProg.lean LOADS. Nothing in Lean hashes anything: it is a label: what it is worth is what the hold of that sum in a sandbox is worth. -/
noncomputable def Tryd.pinned : Pinned := { name := "ytldogjldnckdmacdoor", sum := "d790c656be18079cf33c12ac6ac9686d86285795fbf2106ff5006970bc159c42", checked := Tryd.checked }
namespace Rows
def none {H : Type} : Left H := { results := [], args := [] }

/- WHAT THE LISTED PACKAGE-LEVEL VARIABLES READ AS WHEN THE CALL BEGINS. Each datum BY PROGRAM (the guide's laid-datum.mjs) off the statement by which the dump's own 'gosem.cut.vars' lays the variable. In a bare row this is a premise. The card (YtldogjldnckdmacDoorCards.lean) ties it to the program's text. -/
def laid_loop_example_alidade_impl_errTooGreat {H : Type} : DataW H := .iface "*errors.errorString" (.ptr (.agg [.lit (.string [97, 32, 115, 112, 97, 110, 32, 104, 97, 115, 32, 97, 110, 32, 101, 110, 100, 32, 98, 101, 121, 111, 110, 100, 32, 83, 112, 97, 110, 77, 97, 120])]))

/-- 'laws.FnSpanHull': WHATEVER THE INPUT: true; the input reads as it did. -/
def fnSpanHullSpec : ChangeSpec := { name := "fnSpanHull", vars := ["loop.example/alidade/impl.errTooGreat"], fn := fun _ => fun
  | [d1, d2, g1] => { results := [.lit (.bool true)], args := [d1, d2], vars := [g1] }
  | _ => none }
def fnSpanHullRow : OpenClaim := { program := "ytldogjldnckdmacdoor", sum := "d790c656be18079cf33c12ac6ac9686d86285795fbf2106ff5006970bc159c42", func := "loop.example/alidade/laws.FnSpanHull", spec := "fnSpanHull", inPlace := ["internal/reflectlite.TypeOf"], unfollowed := true, recurses := true, named := ["loop.example/alidade/impl.errTooGreat"], ifaces := true, apart := false, laid := [("loop.example/alidade/impl.errTooGreat", laid_loop_example_alidade_impl_errTooGreat)] }
def FnSpanHullSaid : Prop := fnSpanHullRow.holds Tryd.pinned (OpenSpec.ofChange fnSpanHullSpec)

/-- ITS FALSE NEIGHBOUR: 'it returns false'. Refute it at one input. -/
def fnSpanHullWrong : ChangeSpec := { name := "fnSpanHull", vars := ["loop.example/alidade/impl.errTooGreat"], fn := fun _ => fun
  | [d1, d2, g1] => { results := [.lit (.bool false)], args := [d1, d2], vars := [g1] }
  | _ => none }
def FnSpanHullWrongFalsely : Prop := fnSpanHullRow.holds Tryd.pinned (OpenSpec.ofChange fnSpanHullWrong)

/-- 'laws.FnSpanMeet': WHATEVER THE INPUT: true; the input reads as it did. -/
def fnSpanMeetSpec : ChangeSpec := { name := "fnSpanMeet", vars := ["loop.example/alidade/impl.errTooGreat"], fn := fun _ => fun
  | [d1, d2, g1] => { results := [.lit (.bool true)], args := [d1, d2], vars := [g1] }
  | _ => none }
def fnSpanMeetRow : OpenClaim := { program := "ytldogjldnckdmacdoor", sum := "d790c656be18079cf33c12ac6ac9686d86285795fbf2106ff5006970bc159c42", func := "loop.example/alidade/laws.FnSpanMeet", spec := "fnSpanMeet", inPlace := ["internal/reflectlite.TypeOf"], unfollowed := true, recurses := true, named := ["loop.example/alidade/impl.errTooGreat"], ifaces := true, apart := false, laid := [("loop.example/alidade/impl.errTooGreat", laid_loop_example_alidade_impl_errTooGreat)] }
def FnSpanMeetSaid : Prop := fnSpanMeetRow.holds Tryd.pinned (OpenSpec.ofChange fnSpanMeetSpec)

/-- ITS FALSE NEIGHBOUR: 'it returns false'. Refute it at one input. -/
def fnSpanMeetWrong : ChangeSpec := { name := "fnSpanMeet", vars := ["loop.example/alidade/impl.errTooGreat"], fn := fun _ => fun
  | [d1, d2, g1] => { results := [.lit (.bool false)], args := [d1, d2], vars := [g1] }
  | _ => none }
def FnSpanMeetWrongFalsely : Prop := fnSpanMeetRow.holds Tryd.pinned (OpenSpec.ofChange fnSpanMeetWrong)

/-- 'laws.FnSpanNeg': WHATEVER THE INPUT: true; the input reads as it did. -/
def fnSpanNegSpec : ChangeSpec := { name := "fnSpanNeg", vars := ["loop.example/alidade/impl.errTooGreat"], fn := fun _ => fun
  | [d1, d2, g1] => { results := [.lit (.bool true)], args := [d1, d2], vars := [g1] }
  | _ => none }
def fnSpanNegRow : OpenClaim := { program := "ytldogjldnckdmacdoor", sum := "d790c656be18079cf33c12ac6ac9686d86285795fbf2106ff5006970bc159c42", func := "loop.example/alidade/laws.FnSpanNeg", spec := "fnSpanNeg", inPlace := ["internal/reflectlite.TypeOf"], unfollowed := true, recurses := true, named := ["loop.example/alidade/impl.errTooGreat"], ifaces := true, apart := false, laid := [("loop.example/alidade/impl.errTooGreat", laid_loop_example_alidade_impl_errTooGreat)] }
def FnSpanNegSaid : Prop := fnSpanNegRow.holds Tryd.pinned (OpenSpec.ofChange fnSpanNegSpec)

/-- ITS FALSE NEIGHBOUR: 'it returns false'. Refute it at one input. -/
def fnSpanNegWrong : ChangeSpec := { name := "fnSpanNeg", vars := ["loop.example/alidade/impl.errTooGreat"], fn := fun _ => fun
  | [d1, d2, g1] => { results := [.lit (.bool false)], args := [d1, d2], vars := [g1] }
  | _ => none }
def FnSpanNegWrongFalsely : Prop := fnSpanNegRow.holds Tryd.pinned (OpenSpec.ofChange fnSpanNegWrong)

/-- 'laws.FnSpanAdd': WHATEVER THE INPUT: true; the input reads as it did. -/
def fnSpanAddSpec : ChangeSpec := { name := "fnSpanAdd", vars := ["loop.example/alidade/impl.errTooGreat"], fn := fun _ => fun
  | [d1, d2, g1] => { results := [.lit (.bool true)], args := [d1, d2], vars := [g1] }
  | _ => none }
def fnSpanAddRow : OpenClaim := { program := "ytldogjldnckdmacdoor", sum := "d790c656be18079cf33c12ac6ac9686d86285795fbf2106ff5006970bc159c42", func := "loop.example/alidade/laws.FnSpanAdd", spec := "fnSpanAdd", inPlace := ["internal/reflectlite.TypeOf"], unfollowed := true, recurses := true, named := ["loop.example/alidade/impl.errTooGreat"], ifaces := true, apart := false, laid := [("loop.example/alidade/impl.errTooGreat", laid_loop_example_alidade_impl_errTooGreat)] }
def FnSpanAddSaid : Prop := fnSpanAddRow.holds Tryd.pinned (OpenSpec.ofChange fnSpanAddSpec)

/-- ITS FALSE NEIGHBOUR: 'it returns false'. Refute it at one input. -/
def fnSpanAddWrong : ChangeSpec := { name := "fnSpanAdd", vars := ["loop.example/alidade/impl.errTooGreat"], fn := fun _ => fun
  | [d1, d2, g1] => { results := [.lit (.bool false)], args := [d1, d2], vars := [g1] }
  | _ => none }
def FnSpanAddWrongFalsely : Prop := fnSpanAddRow.holds Tryd.pinned (OpenSpec.ofChange fnSpanAddWrong)

/-- 'laws.FnSpanSub': WHATEVER THE INPUT: true; the input reads as it did. -/
def fnSpanSubSpec : ChangeSpec := { name := "fnSpanSub", vars := ["loop.example/alidade/impl.errTooGreat"], fn := fun _ => fun
  | [d1, d2, g1] => { results := [.lit (.bool true)], args := [d1, d2], vars := [g1] }
  | _ => none }
def fnSpanSubRow : OpenClaim := { program := "ytldogjldnckdmacdoor", sum := "d790c656be18079cf33c12ac6ac9686d86285795fbf2106ff5006970bc159c42", func := "loop.example/alidade/laws.FnSpanSub", spec := "fnSpanSub", inPlace := ["internal/reflectlite.TypeOf"], unfollowed := true, recurses := true, named := ["loop.example/alidade/impl.errTooGreat"], ifaces := true, apart := false, laid := [("loop.example/alidade/impl.errTooGreat", laid_loop_example_alidade_impl_errTooGreat)] }
def FnSpanSubSaid : Prop := fnSpanSubRow.holds Tryd.pinned (OpenSpec.ofChange fnSpanSubSpec)

/-- ITS FALSE NEIGHBOUR: 'it returns false'. Refute it at one input. -/
def fnSpanSubWrong : ChangeSpec := { name := "fnSpanSub", vars := ["loop.example/alidade/impl.errTooGreat"], fn := fun _ => fun
  | [d1, d2, g1] => { results := [.lit (.bool false)], args := [d1, d2], vars := [g1] }
  | _ => none }
def FnSpanSubWrongFalsely : Prop := fnSpanSubRow.holds Tryd.pinned (OpenSpec.ofChange fnSpanSubWrong)

/-- 'laws.FnSpanMul': WHATEVER THE INPUT: true; the input reads as it did. -/
def fnSpanMulSpec : ChangeSpec := { name := "fnSpanMul", vars := ["loop.example/alidade/impl.errTooGreat"], fn := fun _ => fun
  | [d1, d2, g1] => { results := [.lit (.bool true)], args := [d1, d2], vars := [g1] }
  | _ => none }
def fnSpanMulRow : OpenClaim := { program := "ytldogjldnckdmacdoor", sum := "d790c656be18079cf33c12ac6ac9686d86285795fbf2106ff5006970bc159c42", func := "loop.example/alidade/laws.FnSpanMul", spec := "fnSpanMul", inPlace := ["internal/reflectlite.TypeOf"], unfollowed := true, recurses := true, named := ["loop.example/alidade/impl.errTooGreat"], ifaces := true, apart := false, laid := [("loop.example/alidade/impl.errTooGreat", laid_loop_example_alidade_impl_errTooGreat)] }
def FnSpanMulSaid : Prop := fnSpanMulRow.holds Tryd.pinned (OpenSpec.ofChange fnSpanMulSpec)

/-- ITS FALSE NEIGHBOUR: 'it returns false'. Refute it at one input. -/
def fnSpanMulWrong : ChangeSpec := { name := "fnSpanMul", vars := ["loop.example/alidade/impl.errTooGreat"], fn := fun _ => fun
  | [d1, d2, g1] => { results := [.lit (.bool false)], args := [d1, d2], vars := [g1] }
  | _ => none }
def FnSpanMulWrongFalsely : Prop := fnSpanMulRow.holds Tryd.pinned (OpenSpec.ofChange fnSpanMulWrong)

/- THE SECOND FORM. 'bulk': how many values and letters a reading holds, each counted each time it is reached (what is shared counts as often as it is met; a slice's spare places count too). A statement '..UptoSaid' is the law's where the arguments, and the package variables that the reading takes, are together of bulk at most 1048576: NARROWER than '..Said'. Prove '..Said' where nothing that the law and all that it calls make is longer than what came in: it says more and counts as full. Else prove '..UptoSaid'. A law counts once. -/
mutual
def uptoBulk {H : Type} : DataW H → Nat
  | .lit (.string bytes) => bytes.length + 1
  | .lit _ => 1
  | .nil => 1
  | .ptr d => uptoBulk d + 1
  | .slice elems spare => uptoBulkAll elems + uptoBulkAll spare + 1
  | .agg parts => uptoBulkAll parts + 1
  | .iface _ d => uptoBulk d + 1
  | .map entries => uptoBulkEntries entries + 1
  | .held _ => 1
def uptoBulkAll {H : Type} : List (DataW H) → Nat
  | [] => 0
  | d :: r => uptoBulk d + uptoBulkAll r
def uptoBulkEntries {H : Type} : List (Lit × DataW H) → Nat
  | [] => 0
  | x :: r => uptoBulkEntry x + uptoBulkEntries r
def uptoBulkEntry {H : Type} : Lit × DataW H → Nat
  | (.string bytes, d) => bytes.length + uptoBulk d + 1
  | (_, d) => uptoBulk d + 1
 end
def uptoSmall : (H : Type) → List (DataW H) → Bool := fun _ ds => decide (uptoBulkAll ds ≤ 1048576)
def OpenSpec.upto (s : _root_.Go.ChangeSpec) : _root_.Go.OpenSpec := { _root_.Go.OpenSpec.ofChange s with cond := some uptoSmall }

/-- 'laws.FnSpanHull', WHERE WHAT IT READS IS OF BULK AT MOST 1048576: true; the input reads as it did. -/
def fnSpanHullUptoRow : OpenClaim := { program := "ytldogjldnckdmacdoor", sum := "d790c656be18079cf33c12ac6ac9686d86285795fbf2106ff5006970bc159c42", func := "loop.example/alidade/laws.FnSpanHull", spec := "fnSpanHull", inPlace := ["internal/reflectlite.TypeOf"], unfollowed := true, recurses := true, named := ["loop.example/alidade/impl.errTooGreat"], ifaces := true, apart := false, laid := [("loop.example/alidade/impl.errTooGreat", laid_loop_example_alidade_impl_errTooGreat)], narrowed := true }
def FnSpanHullUptoSaid : Prop := fnSpanHullUptoRow.holds Tryd.pinned (OpenSpec.upto fnSpanHullSpec)

/-- 'laws.FnSpanMeet', WHERE WHAT IT READS IS OF BULK AT MOST 1048576: true; the input reads as it did. -/
def fnSpanMeetUptoRow : OpenClaim := { program := "ytldogjldnckdmacdoor", sum := "d790c656be18079cf33c12ac6ac9686d86285795fbf2106ff5006970bc159c42", func := "loop.example/alidade/laws.FnSpanMeet", spec := "fnSpanMeet", inPlace := ["internal/reflectlite.TypeOf"], unfollowed := true, recurses := true, named := ["loop.example/alidade/impl.errTooGreat"], ifaces := true, apart := false, laid := [("loop.example/alidade/impl.errTooGreat", laid_loop_example_alidade_impl_errTooGreat)], narrowed := true }
def FnSpanMeetUptoSaid : Prop := fnSpanMeetUptoRow.holds Tryd.pinned (OpenSpec.upto fnSpanMeetSpec)

/-- 'laws.FnSpanNeg', WHERE WHAT IT READS IS OF BULK AT MOST 1048576: true; the input reads as it did. -/
def fnSpanNegUptoRow : OpenClaim := { program := "ytldogjldnckdmacdoor", sum := "d790c656be18079cf33c12ac6ac9686d86285795fbf2106ff5006970bc159c42", func := "loop.example/alidade/laws.FnSpanNeg", spec := "fnSpanNeg", inPlace := ["internal/reflectlite.TypeOf"], unfollowed := true, recurses := true, named := ["loop.example/alidade/impl.errTooGreat"], ifaces := true, apart := false, laid := [("loop.example/alidade/impl.errTooGreat", laid_loop_example_alidade_impl_errTooGreat)], narrowed := true }
def FnSpanNegUptoSaid : Prop := fnSpanNegUptoRow.holds Tryd.pinned (OpenSpec.upto fnSpanNegSpec)

/-- 'laws.FnSpanAdd', WHERE WHAT IT READS IS OF BULK AT MOST 1048576: true; the input reads as it did. -/
def fnSpanAddUptoRow : OpenClaim := { program := "ytldogjldnckdmacdoor", sum := "d790c656be18079cf33c12ac6ac9686d86285795fbf2106ff5006970bc159c42", func := "loop.example/alidade/laws.FnSpanAdd", spec := "fnSpanAdd", inPlace := ["internal/reflectlite.TypeOf"], unfollowed := true, recurses := true, named := ["loop.example/alidade/impl.errTooGreat"], ifaces := true, apart := false, laid := [("loop.example/alidade/impl.errTooGreat", laid_loop_example_alidade_impl_errTooGreat)], narrowed := true }
def FnSpanAddUptoSaid : Prop := fnSpanAddUptoRow.holds Tryd.pinned (OpenSpec.upto fnSpanAddSpec)

/-- 'laws.FnSpanSub', WHERE WHAT IT READS IS OF BULK AT MOST 1048576: true; the input reads as it did. -/
def fnSpanSubUptoRow : OpenClaim := { program := "ytldogjldnckdmacdoor", sum := "d790c656be18079cf33c12ac6ac9686d86285795fbf2106ff5006970bc159c42", func := "loop.example/alidade/laws.FnSpanSub", spec := "fnSpanSub", inPlace := ["internal/reflectlite.TypeOf"], unfollowed := true, recurses := true, named := ["loop.example/alidade/impl.errTooGreat"], ifaces := true, apart := false, laid := [("loop.example/alidade/impl.errTooGreat", laid_loop_example_alidade_impl_errTooGreat)], narrowed := true }
def FnSpanSubUptoSaid : Prop := fnSpanSubUptoRow.holds Tryd.pinned (OpenSpec.upto fnSpanSubSpec)

/-- 'laws.FnSpanMul', WHERE WHAT IT READS IS OF BULK AT MOST 1048576: true; the input reads as it did. -/
def fnSpanMulUptoRow : OpenClaim := { program := "ytldogjldnckdmacdoor", sum := "d790c656be18079cf33c12ac6ac9686d86285795fbf2106ff5006970bc159c42", func := "loop.example/alidade/laws.FnSpanMul", spec := "fnSpanMul", inPlace := ["internal/reflectlite.TypeOf"], unfollowed := true, recurses := true, named := ["loop.example/alidade/impl.errTooGreat"], ifaces := true, apart := false, laid := [("loop.example/alidade/impl.errTooGreat", laid_loop_example_alidade_impl_errTooGreat)], narrowed := true }
def FnSpanMulUptoSaid : Prop := fnSpanMulUptoRow.holds Tryd.pinned (OpenSpec.upto fnSpanMulSpec)

end Rows
end Go.Proofs.YtldogjldnckdmacDoor
