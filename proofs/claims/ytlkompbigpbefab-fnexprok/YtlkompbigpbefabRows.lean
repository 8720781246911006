/-
  NARROWER THAN 'FOR EVERY INPUT', by the rows' own cells (each row's printed sentence says how): FnExactExprOk: loops · FnExactExprRat: loops.
  DERIVED. THE GIVEN ROWS OF THIS SEAT. 4 by the template 'for every input the law returns true; each argument reads behind the call as it read before'; 0 by the template 'total and deterministic' (their statements: YtlkompbigpbefabTotals.lean).
  GIVEN WITH THE SEED: the statements are not yours to turn. If you find one false, say at which input.
  Laid BY PROGRAM, IN A SANDBOX (cutbox-rows.mjs): the forced cells as the released guide's own fill.sh prints them over the translation 10c822ad9dbeb813… (all of the seat's roots in one cut). By AI agents, Wed Nov 11 2026. No macro, syntax, notation, axiom, sorry.
-/
import Derived.Test.YtlkompbigpbefabChecked
import GoSem.Claim
import GoSem.ClaimJoined
import GoSem.ClaimMapViews
import Derived.JoinedTies
import Derived.KernelRfl
namespace Go.Proofs.Ytlkompbigpbefab
/- THE CELL 'sum', in the pinned program and in every row, IS THE sha256 OF THE DUMP (.gsa) THAT YtlkompbigpbefabProg.lean LOADS. Nothing in Lean hashes anything: it is a label: what it is worth is what the hold of that sum in a sandbox is worth. -/
noncomputable def Try.pinned : Pinned := { name := "ytlkompbigpbefab", sum := "10c822ad9dbeb8133e28efefaf2b687a1a6c8a7db366f114a44d168c9433d7ae", checked := Try.checked }
namespace Rows
def none {H : Type} : Left H := { results := [], args := [] }

/-- 'laws.FnExprLeast': WHATEVER THE INPUT: true; the input reads as it did. -/
def fnExprLeastSpec : ChangeSpec := { name := "fnExprLeast", fn := fun _ => fun
  | [d] => { results := [.lit (.bool true)], args := [d] }
  | _ => none }
def fnExprLeastRow : OpenClaim := { program := "ytlkompbigpbefab", sum := "10c822ad9dbeb8133e28efefaf2b687a1a6c8a7db366f114a44d168c9433d7ae", func := "loop.example/alidade/laws.FnExprLeast", spec := "fnExprLeast", inPlace := ["(*sync.WaitGroup).Add", "internal/race.ReleaseMerge", "internal/race.Disable", "internal/race.Enable", "internal/synctest.IsInBubble", "internal/synctest.Associate[sync.WaitGroup]", "sync.fatal", "sync/atomic.OrUint64", "sync/atomic.AddUint64", "internal/race.Read", "sync/atomic.LoadUint64", "sync/atomic.StoreUint64", "internal/synctest.Disassociate[sync.WaitGroup]", "sync.runtime_Semrelease", "(*sync.WaitGroup).Done", "(*sync.WaitGroup).Wait", "internal/race.Acquire", "internal/synctest.IsAssociated[sync.WaitGroup]", "sync/atomic.CompareAndSwapUint64", "internal/race.Write", "sync.runtime_SemacquireWaitGroup"], unfollowed := true, recurses := true, leaving := true, apart := false }
def FnExprLeastSaid : Prop := fnExprLeastRow.holds Try.pinned (OpenSpec.ofChange fnExprLeastSpec)

/-- ITS FALSE NEIGHBOUR: 'it returns false'. Refute it at one input. -/
def fnExprLeastWrong : ChangeSpec := { name := "fnExprLeast", fn := fun _ => fun
  | [d] => { results := [.lit (.bool false)], args := [d] }
  | _ => none }
def FnExprLeastWrongFalsely : Prop := fnExprLeastRow.holds Try.pinned (OpenSpec.ofChange fnExprLeastWrong)

/-- 'laws.FnExprOk': WHATEVER THE INPUT: true; the input reads as it did. -/
def fnExprOkSpec : ChangeSpec := { name := "fnExprOk", fn := fun _ => fun
  | [d] => { results := [.lit (.bool true)], args := [d] }
  | _ => none }
def fnExprOkRow : OpenClaim := { program := "ytlkompbigpbefab", sum := "10c822ad9dbeb8133e28efefaf2b687a1a6c8a7db366f114a44d168c9433d7ae", func := "loop.example/alidade/laws.FnExprOk", spec := "fnExprOk", recurses := true, apart := false }
def FnExprOkSaid : Prop := fnExprOkRow.holds Try.pinned (OpenSpec.ofChange fnExprOkSpec)

/-- ITS FALSE NEIGHBOUR: 'it returns false'. Refute it at one input. -/
def fnExprOkWrong : ChangeSpec := { name := "fnExprOk", fn := fun _ => fun
  | [d] => { results := [.lit (.bool false)], args := [d] }
  | _ => none }
def FnExprOkWrongFalsely : Prop := fnExprOkRow.holds Try.pinned (OpenSpec.ofChange fnExprOkWrong)

/-- 'laws.FnExactExprOk': WHATEVER THE INPUT: true; the input reads as it did. -/
def fnExactExprOkSpec : ChangeSpec := { name := "fnExactExprOk", fn := fun _ => fun
  | [d] => { results := [.lit (.bool true)], args := [d] }
  | _ => none }
def fnExactExprOkRow : OpenClaim := { program := "ytlkompbigpbefab", sum := "10c822ad9dbeb8133e28efefaf2b687a1a6c8a7db366f114a44d168c9433d7ae", func := "loop.example/alidade/laws.FnExactExprOk", spec := "fnExactExprOk", recurses := true, loops := true, apart := false }
def FnExactExprOkSaid : Prop := fnExactExprOkRow.holds Try.pinned (OpenSpec.ofChange fnExactExprOkSpec)

/-- ITS FALSE NEIGHBOUR: 'it returns false'. Refute it at one input. -/
def fnExactExprOkWrong : ChangeSpec := { name := "fnExactExprOk", fn := fun _ => fun
  | [d] => { results := [.lit (.bool false)], args := [d] }
  | _ => none }
def FnExactExprOkWrongFalsely : Prop := fnExactExprOkRow.holds Try.pinned (OpenSpec.ofChange fnExactExprOkWrong)

/-- 'laws.FnExactExprRat': WHATEVER THE INPUT: true; the input reads as it did. -/
def fnExactExprRatSpec : ChangeSpec := { name := "fnExactExprRat", fn := fun _ => fun
  | [d] => { results := [.lit (.bool true)], args := [d] }
  | _ => none }
def fnExactExprRatRow : OpenClaim := { program := "ytlkompbigpbefab", sum := "10c822ad9dbeb8133e28efefaf2b687a1a6c8a7db366f114a44d168c9433d7ae", func := "loop.example/alidade/laws.FnExactExprRat", spec := "fnExactExprRat", inPlace := ["(*sync.WaitGroup).Add", "internal/race.ReleaseMerge", "internal/race.Disable", "internal/race.Enable", "internal/synctest.IsInBubble", "internal/synctest.Associate[sync.WaitGroup]", "sync.fatal", "sync/atomic.OrUint64", "sync/atomic.AddUint64", "internal/race.Read", "sync/atomic.LoadUint64", "sync/atomic.StoreUint64", "internal/synctest.Disassociate[sync.WaitGroup]", "sync.runtime_Semrelease", "(*sync.WaitGroup).Done", "(*sync.WaitGroup).Wait", "internal/race.Acquire", "internal/synctest.IsAssociated[sync.WaitGroup]", "sync/atomic.CompareAndSwapUint64", "internal/race.Write", "sync.runtime_SemacquireWaitGroup"], unfollowed := true, recurses := true, loops := true, leaving := true, apart := false }
def FnExactExprRatSaid : Prop := fnExactExprRatRow.holds Try.pinned (OpenSpec.ofChange fnExactExprRatSpec)

/-- ITS FALSE NEIGHBOUR: 'it returns false'. Refute it at one input. -/
def fnExactExprRatWrong : ChangeSpec := { name := "fnExactExprRat", fn := fun _ => fun
  | [d] => { results := [.lit (.bool false)], args := [d] }
  | _ => none }
def FnExactExprRatWrongFalsely : Prop := fnExactExprRatRow.holds Try.pinned (OpenSpec.ofChange fnExactExprRatWrong)

/- THE SECOND FORM. 'bulk': how many values and letters a reading holds, each counted each time it is reached (what is shared counts as often as it is met; a slice's spare places count too). A statement '..UptoSaid' is the law's where the arguments, and the package variables that the reading takes, are together of bulk at most 1048576: NARROWER than '..Said'. Prove '..Said' where nothing that the law and all that it calls make is longer than what came in: it says more and counts as full. Else prove '..UptoSaid'. A law counts once. -/
mutual
def uptoBulk {H : Type} : DataW H → Nat
  | .lit (.string bytes) => bytes.length + 1
  | .lit _ => 1
  | .nil => 1
  | .ptr d => uptoBulk d + 1
  | .slice elems spare => uptoBulkAll elems + uptoBulkAll spare + 1
  | .agg parts => uptoBulkAll parts + 1
  | .iface _ d => uptoBulk d + 1
  | .map entries => uptoBulkEntries entries + 1
  | .held _ => 1
def uptoBulkAll {H : Type} : List (DataW H) → Nat
  | [] => 0
  | d :: r => uptoBulk d + uptoBulkAll r
def uptoBulkEntries {H : Type} : List (Lit × DataW H) → Nat
  | [] => 0
  | x :: r => uptoBulkEntry x + uptoBulkEntries r
def uptoBulkEntry {H : Type} : Lit × DataW H → Nat
  | (.string bytes, d) => bytes.length + uptoBulk d + 1
  | (_, d) => uptoBulk d + 1
 end
def uptoSmall : (H : Type) → List (DataW H) → Bool := fun _ ds => decide (uptoBulkAll ds ≤ 1048576)
def OpenSpec.upto (s : _root_.Go.ChangeSpec) : _root_.Go.OpenSpec := { _root_.Go.OpenSpec.ofChange s with cond := some uptoSmall }

/-- 'laws.FnExprLeast', WHERE WHAT IT READS IS OF BULK AT MOST 1048576: true; the input reads as it did. -/
def fnExprLeastUptoRow : OpenClaim := { program := "ytlkompbigpbefab", sum := "10c822ad9dbeb8133e28efefaf2b687a1a6c8a7db366f114a44d168c9433d7ae", func := "loop.example/alidade/laws.FnExprLeast", spec := "fnExprLeast", inPlace := ["(*sync.WaitGroup).Add", "internal/race.ReleaseMerge", "internal/race.Disable", "internal/race.Enable", "internal/synctest.IsInBubble", "internal/synctest.Associate[sync.WaitGroup]", "sync.fatal", "sync/atomic.OrUint64", "sync/atomic.AddUint64", "internal/race.Read", "sync/atomic.LoadUint64", "sync/atomic.StoreUint64", "internal/synctest.Disassociate[sync.WaitGroup]", "sync.runtime_Semrelease", "(*sync.WaitGroup).Done", "(*sync.WaitGroup).Wait", "internal/race.Acquire", "internal/synctest.IsAssociated[sync.WaitGroup]", "sync/atomic.CompareAndSwapUint64", "internal/race.Write", "sync.runtime_SemacquireWaitGroup"], unfollowed := true, recurses := true, leaving := true, apart := false, narrowed := true }
def FnExprLeastUptoSaid : Prop := fnExprLeastUptoRow.holds Try.pinned (OpenSpec.upto fnExprLeastSpec)

/-- 'laws.FnExprOk', WHERE WHAT IT READS IS OF BULK AT MOST 1048576: true; the input reads as it did. -/
def fnExprOkUptoRow : OpenClaim := { program := "ytlkompbigpbefab", sum := "10c822ad9dbeb8133e28efefaf2b687a1a6c8a7db366f114a44d168c9433d7ae", func := "loop.example/alidade/laws.FnExprOk", spec := "fnExprOk", recurses := true, apart := false, narrowed := true }
def FnExprOkUptoSaid : Prop := fnExprOkUptoRow.holds Try.pinned (OpenSpec.upto fnExprOkSpec)

/-- 'laws.FnExactExprOk', WHERE WHAT IT READS IS OF BULK AT MOST 1048576: true; the input reads as it did. -/
def fnExactExprOkUptoRow : OpenClaim := { program := "ytlkompbigpbefab", sum := "10c822ad9dbeb8133e28efefaf2b687a1a6c8a7db366f114a44d168c9433d7ae", func := "loop.example/alidade/laws.FnExactExprOk", spec := "fnExactExprOk", recurses := true, loops := true, apart := false, narrowed := true }
def FnExactExprOkUptoSaid : Prop := fnExactExprOkUptoRow.holds Try.pinned (OpenSpec.upto fnExactExprOkSpec)

/-- 'laws.FnExactExprRat', WHERE WHAT IT READS IS OF BULK AT MOST 1048576: true; the input reads as it did. -/
def fnExactExprRatUptoRow : OpenClaim := { program := "ytlkompbigpbefab", sum := "10c822ad9dbeb8133e28efefaf2b687a1a6c8a7db366f114a44d168c9433d7ae", func := "loop.example/alidade/laws.FnExactExprRat", spec := "fnExactExprRat", inPlace := ["(*sync.WaitGroup).Add", "internal/race.ReleaseMerge", "internal/race.Disable", "internal/race.Enable", "internal/synctest.IsInBubble", "internal/synctest.Associate[sync.WaitGroup]", "sync.fatal", "sync/atomic.OrUint64", "sync/atomic.AddUint64", "internal/race.Read", "sync/atomic.LoadUint64", "sync/atomic.StoreUint64", "internal/synctest.Disassociate[sync.WaitGroup]", "sync.runtime_Semrelease", "(*sync.WaitGroup).Done", "(*sync.WaitGroup).Wait", "internal/race.Acquire", "internal/synctest.IsAssociated[sync.WaitGroup]", "sync/atomic.CompareAndSwapUint64", "internal/race.Write", "sync.runtime_SemacquireWaitGroup"], unfollowed := true, recurses := true, loops := true, leaving := true, apart := false, narrowed := true }
def FnExactExprRatUptoSaid : Prop := fnExactExprRatUptoRow.holds Try.pinned (OpenSpec.upto fnExactExprRatSpec)

end Rows
end Go.Proofs.Ytlkompbigpbefab
