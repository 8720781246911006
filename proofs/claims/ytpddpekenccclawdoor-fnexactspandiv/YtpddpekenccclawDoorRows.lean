/-
  NARROWER THAN 'FOR EVERY INPUT', by the rows' own cells (each row's printed sentence says how): FnExactSpanMeet: ifaces, laid · FnExactSpanNeg: ifaces, laid · FnExactSpanAdd: ifaces, laid · FnExactSpanSub: ifaces, laid · FnExactSpanMul: ifaces, laid · FnExactSpanDiv: ifaces, laid.
  DERIVED. THE GIVEN ROWS OF THIS SEAT. 6 by the template 'for every input the law returns true; each argument reads behind the call as it read before'; 0 by the template 'total and deterministic' (their statements: YtpddpekenccclawDoorTotals.lean).
  GIVEN WITH THE SEED: the statements are not yours to turn. If you find one false, say at which input.
  Laid BY PROGRAM, IN A SANDBOX (cutbox-rows.mjs): the forced cells as the released guide's own fill.sh prints them over the translation c154d11226e88a7f… (all of the seat's roots in one cut). By AI agents, Wed Nov 11 2026. No macro, syntax, notation, axiom, sorry.
-/
import Derived.Test.YtpddpekenccclawDoorChecked
import GoSem.Claim
import GoSem.ClaimJoined
import GoSem.ClaimMapViews
import Derived.JoinedTies
import Derived.KernelRfl
namespace Go.Proofs.YtpddpekenccclawDoor
/- THE CELL 'sum', in the pinned program and in every row, IS THE sha256 OF THE DUMP (.gsa) THAT YtpddpekenccclawDoorProg.lean LOADS. Nothing in Lean hashes anything: it is a label: what it is worth is what the hold of that sum in a sandbox is worth. -/
noncomputable def Tryd.pinned : Pinned := { name := "ytpddpekenccclawdoor", sum := "c154d11226e88a7f1386e256a09776c968f68d622a8ed16b65977e33ffdcb205", checked := Tryd.checked }
namespace Rows
def none {H : Type} : Left H := { results := [], args := [] }

/- WHAT THE LISTED PACKAGE-LEVEL VARIABLES READ AS WHEN THE CALL BEGINS. Each datum BY PROGRAM (the guide's laid-datum.mjs) off the statement by which the dump's own 'gosem.cut.vars' lays the variable. In a bare row this is a premise. The card (YtpddpekenccclawDoorCards.lean) ties it to the program's text. -/
def laid_loop_example_alidade_impl_errTooGreat {H : Type} : DataW H := .iface "*errors.errorString" (.ptr (.agg [.lit (.string [97, 32, 115, 112, 97, 110, 32, 104, 97, 115, 32, 97, 110, 32, 101, 110, 100, 32, 98, 101, 121, 111, 110, 100, 32, 83, 112, 97, 110, 77, 97, 120])]))

/-- 'laws.FnExactSpanMeet': WHATEVER THE INPUT: true; the input reads as it did. -/
def fnExactSpanMeetSpec : ChangeSpec := { name := "fnExactSpanMeet", vars := ["loop.example/alidade/impl.errTooGreat"], fn := fun _ => fun
  | [d1, d2, g1] => { results := [.lit (.bool true)], args := [d1, d2], vars := [g1] }
  | _ => none }
def fnExactSpanMeetRow : OpenClaim := { program := "ytpddpekenccclawdoor", sum := "c154d11226e88a7f1386e256a09776c968f68d622a8ed16b65977e33ffdcb205", func := "loop.example/alidade/laws.FnExactSpanMeet", spec := "fnExactSpanMeet", inPlace := ["internal/reflectlite.TypeOf"], unfollowed := true, recurses := true, named := ["loop.example/alidade/impl.errTooGreat"], ifaces := true, apart := false, laid := [("loop.example/alidade/impl.errTooGreat", laid_loop_example_alidade_impl_errTooGreat)] }
def FnExactSpanMeetSaid : Prop := fnExactSpanMeetRow.holds Tryd.pinned (OpenSpec.ofChange fnExactSpanMeetSpec)

/-- ITS FALSE NEIGHBOUR: 'it returns false'. Refute it at one input. -/
def fnExactSpanMeetWrong : ChangeSpec := { name := "fnExactSpanMeet", vars := ["loop.example/alidade/impl.errTooGreat"], fn := fun _ => fun
  | [d1, d2, g1] => { results := [.lit (.bool false)], args := [d1, d2], vars := [g1] }
  | _ => none }
def FnExactSpanMeetWrongFalsely : Prop := fnExactSpanMeetRow.holds Tryd.pinned (OpenSpec.ofChange fnExactSpanMeetWrong)

/-- 'laws.FnExactSpanNeg': WHATEVER THE INPUT: true; the input reads as it did. -/
def fnExactSpanNegSpec : ChangeSpec := { name := "fnExactSpanNeg", vars := ["loop.example/alidade/impl.errTooGreat"], fn := fun _ => fun
  | [d, g1] => { results := [.lit (.bool true)], args := [d], vars := [g1] }
  | _ => none }
def fnExactSpanNegRow : OpenClaim := { program := "ytpddpekenccclawdoor", sum := "c154d11226e88a7f1386e256a09776c968f68d622a8ed16b65977e33ffdcb205", func := "loop.example/alidade/laws.FnExactSpanNeg", spec := "fnExactSpanNeg", inPlace := ["internal/reflectlite.TypeOf"], unfollowed := true, recurses := true, named := ["loop.example/alidade/impl.errTooGreat"], ifaces := true, apart := false, laid := [("loop.example/alidade/impl.errTooGreat", laid_loop_example_alidade_impl_errTooGreat)] }
def FnExactSpanNegSaid : Prop := fnExactSpanNegRow.holds Tryd.pinned (OpenSpec.ofChange fnExactSpanNegSpec)

/-- ITS FALSE NEIGHBOUR: 'it returns false'. Refute it at one input. -/
def fnExactSpanNegWrong : ChangeSpec := { name := "fnExactSpanNeg", vars := ["loop.example/alidade/impl.errTooGreat"], fn := fun _ => fun
  | [d, g1] => { results := [.lit (.bool false)], args := [d], vars := [g1] }
  | _ => none }
def FnExactSpanNegWrongFalsely : Prop := fnExactSpanNegRow.holds Tryd.pinned (OpenSpec.ofChange fnExactSpanNegWrong)

/-- 'laws.FnExactSpanAdd': WHATEVER THE INPUT: true; the input reads as it did. -/
def fnExactSpanAddSpec : ChangeSpec := { name := "fnExactSpanAdd", vars := ["loop.example/alidade/impl.errTooGreat"], fn := fun _ => fun
  | [d1, d2, g1] => { results := [.lit (.bool true)], args := [d1, d2], vars := [g1] }
  | _ => none }
def fnExactSpanAddRow : OpenClaim := { program := "ytpddpekenccclawdoor", sum := "c154d11226e88a7f1386e256a09776c968f68d622a8ed16b65977e33ffdcb205", func := "loop.example/alidade/laws.FnExactSpanAdd", spec := "fnExactSpanAdd", inPlace := ["internal/reflectlite.TypeOf"], unfollowed := true, recurses := true, named := ["loop.example/alidade/impl.errTooGreat"], ifaces := true, apart := false, laid := [("loop.example/alidade/impl.errTooGreat", laid_loop_example_alidade_impl_errTooGreat)] }
def FnExactSpanAddSaid : Prop := fnExactSpanAddRow.holds Tryd.pinned (OpenSpec.ofChange fnExactSpanAddSpec)

/-- ITS FALSE NEIGHBOUR: 'it returns false'. Refute it at one input. -/
def fnExactSpanAddWrong : ChangeSpec := { name := "fnExactSpanAdd", vars := ["loop.example/alidade/impl.errTooGreat"], fn := fun _ => fun
  | [d1, d2, g1] => { results := [.lit (.bool false)], args := [d1, d2], vars := [g1] }
  | _ => none }
def FnExactSpanAddWrongFalsely : Prop := fnExactSpanAddRow.holds Tryd.pinned (OpenSpec.ofChange fnExactSpanAddWrong)

/-- 'laws.FnExactSpanSub': WHATEVER THE INPUT: true; the input reads as it did. -/
def fnExactSpanSubSpec : ChangeSpec := { name := "fnExactSpanSub", vars := ["loop.example/alidade/impl.errTooGreat"], fn := fun _ => fun
  | [d1, d2, g1] => { results := [.lit (.bool true)], args := [d1, d2], vars := [g1] }
  | _ => none }
def fnExactSpanSubRow : OpenClaim := { program := "ytpddpekenccclawdoor", sum := "c154d11226e88a7f1386e256a09776c968f68d622a8ed16b65977e33ffdcb205", func := "loop.example/alidade/laws.FnExactSpanSub", spec := "fnExactSpanSub", inPlace := ["internal/reflectlite.TypeOf"], unfollowed := true, recurses := true, named := ["loop.example/alidade/impl.errTooGreat"], ifaces := true, apart := false, laid := [("loop.example/alidade/impl.errTooGreat", laid_loop_example_alidade_impl_errTooGreat)] }
def FnExactSpanSubSaid : Prop := fnExactSpanSubRow.holds Tryd.pinned (OpenSpec.ofChange fnExactSpanSubSpec)

/-- ITS FALSE NEIGHBOUR: 'it returns false'. Refute it at one input. -/
def fnExactSpanSubWrong : ChangeSpec := { name := "fnExactSpanSub", vars := ["loop.example/alidade/impl.errTooGreat"], fn := fun _ => fun
  | [d1, d2, g1] => { results := [.lit (.bool false)], args := [d1, d2], vars := [g1] }
  | _ => none }
def FnExactSpanSubWrongFalsely : Prop := fnExactSpanSubRow.holds Tryd.pinned (OpenSpec.ofChange fnExactSpanSubWrong)

/-- 'laws.FnExactSpanMul': WHATEVER THE INPUT: true; the input reads as it did. -/
def fnExactSpanMulSpec : ChangeSpec := { name := "fnExactSpanMul", vars := ["loop.example/alidade/impl.errTooGreat"], fn := fun _ => fun
  | [d1, d2, g1] => { results := [.lit (.bool true)], args := [d1, d2], vars := [g1] }
  | _ => none }
def fnExactSpanMulRow : OpenClaim := { program := "ytpddpekenccclawdoor", sum := "c154d11226e88a7f1386e256a09776c968f68d622a8ed16b65977e33ffdcb205", func := "loop.example/alidade/laws.FnExactSpanMul", spec := "fnExactSpanMul", inPlace := ["internal/reflectlite.TypeOf"], unfollowed := true, recurses := true, named := ["loop.example/alidade/impl.errTooGreat"], ifaces := true, apart := false, laid := [("loop.example/alidade/impl.errTooGreat", laid_loop_example_alidade_impl_errTooGreat)] }
def FnExactSpanMulSaid : Prop := fnExactSpanMulRow.holds Tryd.pinned (OpenSpec.ofChange fnExactSpanMulSpec)

/-- ITS FALSE NEIGHBOUR: 'it returns false'. Refute it at one input. -/
def fnExactSpanMulWrong : ChangeSpec := { name := "fnExactSpanMul", vars := ["loop.example/alidade/impl.errTooGreat"], fn := fun _ => fun
  | [d1, d2, g1] => { results := [.lit (.bool false)], args := [d1, d2], vars := [g1] }
  | _ => none }
def FnExactSpanMulWrongFalsely : Prop := fnExactSpanMulRow.holds Tryd.pinned (OpenSpec.ofChange fnExactSpanMulWrong)

/-- 'laws.FnExactSpanDiv': WHATEVER THE INPUT: true; the input reads as it did. -/
def fnExactSpanDivSpec : ChangeSpec := { name := "fnExactSpanDiv", vars := ["loop.example/alidade/impl.errTooGreat"], fn := fun _ => fun
  | [d1, d2, g1] => { results := [.lit (.bool true)], args := [d1, d2], vars := [g1] }
  | _ => none }
def fnExactSpanDivRow : OpenClaim := { program := "ytpddpekenccclawdoor", sum := "c154d11226e88a7f1386e256a09776c968f68d622a8ed16b65977e33ffdcb205", func := "loop.example/alidade/laws.FnExactSpanDiv", spec := "fnExactSpanDiv", inPlace := ["internal/reflectlite.TypeOf"], unfollowed := true, recurses := true, named := ["loop.example/alidade/impl.errTooGreat"], ifaces := true, apart := false, laid := [("loop.example/alidade/impl.errTooGreat", laid_loop_example_alidade_impl_errTooGreat)] }
def FnExactSpanDivSaid : Prop := fnExactSpanDivRow.holds Tryd.pinned (OpenSpec.ofChange fnExactSpanDivSpec)

/-- ITS FALSE NEIGHBOUR: 'it returns false'. Refute it at one input. -/
def fnExactSpanDivWrong : ChangeSpec := { name := "fnExactSpanDiv", vars := ["loop.example/alidade/impl.errTooGreat"], fn := fun _ => fun
  | [d1, d2, g1] => { results := [.lit (.bool false)], args := [d1, d2], vars := [g1] }
  | _ => none }
def FnExactSpanDivWrongFalsely : Prop := fnExactSpanDivRow.holds Tryd.pinned (OpenSpec.ofChange fnExactSpanDivWrong)

/- THE SECOND FORM. 'bulk': how many values and letters a reading holds, each counted each time it is reached (what is shared counts as often as it is met; a slice's spare places count too). A statement '..UptoSaid' is the law's where the arguments, and the package variables that the reading takes, are together of bulk at most 1048576: NARROWER than '..Said'. Prove '..Said' where nothing that the law and all that it calls make is longer than what came in: it says more and counts as full. Else prove '..UptoSaid'. A law counts once. -/
mutual
def uptoBulk {H : Type} : DataW H → Nat
  | .lit (.string bytes) => bytes.length + 1
  | .lit _ => 1
  | .nil => 1
  | .ptr d => uptoBulk d + 1
  | .slice elems spare => uptoBulkAll elems + uptoBulkAll spare + 1
  | .agg parts => uptoBulkAll parts + 1
  | .iface _ d => uptoBulk d + 1
  | .map entries => uptoBulkEntries entries + 1
  | .held _ => 1
def uptoBulkAll {H : Type} : List (DataW H) → Nat
  | [] => 0
  | d :: r => uptoBulk d + uptoBulkAll r
def uptoBulkEntries {H : Type} : List (Lit × DataW H) → Nat
  | [] => 0
  | x :: r => uptoBulkEntry x + uptoBulkEntries r
def uptoBulkEntry {H : Type} : Lit × DataW H → Nat
  | (.string bytes, d) => bytes.length + uptoBulk d + 1
  | (_, d) => uptoBulk d + 1
 end
def uptoSmall : (H : Type) → List (DataW H) → Bool := fun _ ds => decide (uptoBulkAll ds ≤ 1048576)
def OpenSpec.upto (s : _root_.Go.ChangeSpec) : _root_.Go.OpenSpec := { _root_.Go.OpenSpec.ofChange s with cond := some uptoSmall }

/-- 'laws.FnExactSpanMeet', WHERE WHAT IT READS IS OF BULK AT MOST 1048576: true; the input reads as it did. -/
def fnExactSpanMeetUptoRow : OpenClaim := { program := "ytpddpekenccclawdoor", sum := "c154d11226e88a7f1386e256a09776c968f68d622a8ed16b65977e33ffdcb205", func := "loop.example/alidade/laws.FnExactSpanMeet", spec := "fnExactSpanMeet", inPlace := ["internal/reflectlite.TypeOf"], unfollowed := true, recurses := true, named := ["loop.example/alidade/impl.errTooGreat"], ifaces := true, apart := false, laid := [("loop.example/alidade/impl.errTooGreat", laid_loop_example_alidade_impl_errTooGreat)], narrowed := true }
def FnExactSpanMeetUptoSaid : Prop := fnExactSpanMeetUptoRow.holds Tryd.pinned (OpenSpec.upto fnExactSpanMeetSpec)

/-- 'laws.FnExactSpanNeg', WHERE WHAT IT READS IS OF BULK AT MOST 1048576: true; the input reads as it did. -/
def fnExactSpanNegUptoRow : OpenClaim := { program := "ytpddpekenccclawdoor", sum := "c154d11226e88a7f1386e256a09776c968f68d622a8ed16b65977e33ffdcb205", func := "loop.example/alidade/laws.FnExactSpanNeg", spec := "fnExactSpanNeg", inPlace := ["internal/reflectlite.TypeOf"], unfollowed := true, recurses := true, named := ["loop.example/alidade/impl.errTooGreat"], ifaces := true, apart := false, laid := [("loop.example/alidade/impl.errTooGreat", laid_loop_example_alidade_impl_errTooGreat)], narrowed := true }
def FnExactSpanNegUptoSaid : Prop := fnExactSpanNegUptoRow.holds Tryd.pinned (OpenSpec.upto fnExactSpanNegSpec)

/-- 'laws.FnExactSpanAdd', WHERE WHAT IT READS IS OF BULK AT MOST 1048576: true; the input reads as it did. -/
def fnExactSpanAddUptoRow : OpenClaim := { program := "ytpddpekenccclawdoor", sum := "c154d11226e88a7f1386e256a09776c968f68d622a8ed16b65977e33ffdcb205", func := "loop.example/alidade/laws.FnExactSpanAdd", spec := "fnExactSpanAdd", inPlace := ["internal/reflectlite.TypeOf"], unfollowed := true, recurses := true, named := ["loop.example/alidade/impl.errTooGreat"], ifaces := true, apart := false, laid := [("loop.example/alidade/impl.errTooGreat", laid_loop_example_alidade_impl_errTooGreat)], narrowed := true }
def FnExactSpanAddUptoSaid : Prop := fnExactSpanAddUptoRow.holds Tryd.pinned (OpenSpec.upto fnExactSpanAddSpec)

/-- 'laws.FnExactSpanSub', WHERE WHAT IT READS IS OF BULK AT MOST 1048576: true; the input reads as it did. -/
def fnExactSpanSubUptoRow : OpenClaim := { program := "ytpddpekenccclawdoor", sum := "c154d11226e88a7f1386e256a09776c968f68d622a8ed16b65977e33ffdcb205", func := "loop.example/alidade/laws.FnExactSpanSub", spec := "fnExactSpanSub", inPlace := ["internal/reflectlite.TypeOf"], unfollowed := true, recurses := true, named := ["loop.example/alidade/impl.errTooGreat"], ifaces := true, apart := false, laid := [("loop.example/alidade/impl.errTooGreat", laid_loop_example_alidade_impl_errTooGreat)], narrowed := true }
def FnExactSpanSubUptoSaid : Prop := fnExactSpanSubUptoRow.holds Tryd.pinned (OpenSpec.upto fnExactSpanSubSpec)

/-- 'laws.FnExactSpanMul', WHERE WHAT IT READS IS OF BULK AT MOST 1048576: true; the input reads as it did. -/
def fnExactSpanMulUptoRow : OpenClaim := { program := "ytpddpekenccclawdoor", sum := "c154d11226e88a7f1386e256a09776c968f68d622a8ed16b65977e33ffdcb205", func := "loop.example/alidade/laws.FnExactSpanMul", spec := "fnExactSpanMul", inPlace := ["internal/reflectlite.TypeOf"], unfollowed := true, recurses := true, named := ["loop.example/alidade/impl.errTooGreat"], ifaces := true, apart := false, laid := [("loop.example/alidade/impl.errTooGreat", laid_loop_example_alidade_impl_errTooGreat)], narrowed := true }
def FnExactSpanMulUptoSaid : Prop := fnExactSpanMulUptoRow.holds Tryd.pinned (OpenSpec.upto fnExactSpanMulSpec)

/-- 'laws.FnExactSpanDiv', WHERE WHAT IT READS IS OF BULK AT MOST 1048576: true; the input reads as it did. -/
def fnExactSpanDivUptoRow : OpenClaim := { program := "ytpddpekenccclawdoor", sum := "c154d11226e88a7f1386e256a09776c968f68d622a8ed16b65977e33ffdcb205", func := "loop.example/alidade/laws.FnExactSpanDiv", spec := "fnExactSpanDiv", inPlace := ["internal/reflectlite.TypeOf"], unfollowed := true, recurses := true, named := ["loop.example/alidade/impl.errTooGreat"], ifaces := true, apart := false, laid := [("loop.example/alidade/impl.errTooGreat", laid_loop_example_alidade_impl_errTooGreat)], narrowed := true }
def FnExactSpanDivUptoSaid : Prop := fnExactSpanDivUptoRow.holds Tryd.pinned (OpenSpec.upto fnExactSpanDivSpec)

end Rows
end Go.Proofs.YtpddpekenccclawDoor
