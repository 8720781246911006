/-
  No cell of these rows narrows 'for every input' (looked for: loops, veiled, ifaces, maps, wideKeys, modest, calm, conditions, laid).
  DERIVED. THE GIVEN ROWS OF THIS SEAT. 4 by the template 'for every input the law returns true; each argument reads behind the call as it read before'; 0 by the template 'total and deterministic' (their statements: YtiidbbnclhknpaaTotals.lean).
  GIVEN WITH THE SEED: the statements are not yours to turn. If you find one false, say at which input.
  Laid BY PROGRAM, IN A SANDBOX (cutbox-rows.mjs): the forced cells as the released guide's own fill.sh prints them over the translation 9d48cd00b6374c97… (all of the seat's roots in one cut). By AI agents, Wed Nov 11 2026. No macro, syntax, notation, axiom, sorry.
-/
import Derived.Test.YtiidbbnclhknpaaChecked
import GoSem.Claim
import GoSem.ClaimJoined
import GoSem.ClaimMapViews
import Derived.JoinedTies
import Derived.KernelRfl
namespace Go.Proofs.Ytiidbbnclhknpaa
/- THE CELL 'sum', in the pinned program and in every row, IS THE sha256 OF THE DUMP (.gsa) THAT YtiidbbnclhknpaaProg.lean LOADS. Nothing in Lean hashes anything: it is a label: what it is worth is what the hold of that sum in a sandbox is worth. -/
noncomputable def Try.pinned : Pinned := { name := "ytiidbbnclhknpaa", sum := "9d48cd00b6374c97304504bfc51165f63b39431ac2161cdc4bc90b99db4f7c7c", checked := Try.checked }
namespace Rows
def none {H : Type} : Left H := { results := [], args := [] }

/-- 'laws.FnTurnLong': WHATEVER THE INPUT: true; the input reads as it did. -/
def fnTurnLongSpec : ChangeSpec := { name := "fnTurnLong", fn := fun _ => fun
  | [d] => { results := [.lit (.bool true)], args := [d] }
  | _ => none }
def fnTurnLongRow : OpenClaim := { program := "ytiidbbnclhknpaa", sum := "9d48cd00b6374c97304504bfc51165f63b39431ac2161cdc4bc90b99db4f7c7c", func := "loop.example/alidade/laws.FnTurnLong", spec := "fnTurnLong", apart := false }
def FnTurnLongSaid : Prop := fnTurnLongRow.holds Try.pinned (OpenSpec.ofChange fnTurnLongSpec)

/-- ITS FALSE NEIGHBOUR: 'it returns false'. Refute it at one input. -/
def fnTurnLongWrong : ChangeSpec := { name := "fnTurnLong", fn := fun _ => fun
  | [d] => { results := [.lit (.bool false)], args := [d] }
  | _ => none }
def FnTurnLongWrongFalsely : Prop := fnTurnLongRow.holds Try.pinned (OpenSpec.ofChange fnTurnLongWrong)

/-- 'laws.FnTurnWhole': WHATEVER THE INPUT: true; the input reads as it did. -/
def fnTurnWholeSpec : ChangeSpec := { name := "fnTurnWhole", fn := fun _ => fun
  | [d] => { results := [.lit (.bool true)], args := [d] }
  | _ => none }
def fnTurnWholeRow : OpenClaim := { program := "ytiidbbnclhknpaa", sum := "9d48cd00b6374c97304504bfc51165f63b39431ac2161cdc4bc90b99db4f7c7c", func := "loop.example/alidade/laws.FnTurnWhole", spec := "fnTurnWhole", unfollowed := true, recurses := true, apart := false }
def FnTurnWholeSaid : Prop := fnTurnWholeRow.holds Try.pinned (OpenSpec.ofChange fnTurnWholeSpec)

/-- ITS FALSE NEIGHBOUR: 'it returns false'. Refute it at one input. -/
def fnTurnWholeWrong : ChangeSpec := { name := "fnTurnWhole", fn := fun _ => fun
  | [d] => { results := [.lit (.bool false)], args := [d] }
  | _ => none }
def FnTurnWholeWrongFalsely : Prop := fnTurnWholeRow.holds Try.pinned (OpenSpec.ofChange fnTurnWholeWrong)

/-- 'laws.FnExactTurnBy': WHATEVER THE INPUT: true; the input reads as it did. -/
def fnExactTurnBySpec : ChangeSpec := { name := "fnExactTurnBy", fn := fun _ => fun
  | [d1, d2, d3] => { results := [.lit (.bool true)], args := [d1, d2, d3] }
  | _ => none }
def fnExactTurnByRow : OpenClaim := { program := "ytiidbbnclhknpaa", sum := "9d48cd00b6374c97304504bfc51165f63b39431ac2161cdc4bc90b99db4f7c7c", func := "loop.example/alidade/laws.FnExactTurnBy", spec := "fnExactTurnBy", unfollowed := true, recurses := true, apart := false }
def FnExactTurnBySaid : Prop := fnExactTurnByRow.holds Try.pinned (OpenSpec.ofChange fnExactTurnBySpec)

/-- ITS FALSE NEIGHBOUR: 'it returns false'. Refute it at one input. -/
def fnExactTurnByWrong : ChangeSpec := { name := "fnExactTurnBy", fn := fun _ => fun
  | [d1, d2, d3] => { results := [.lit (.bool false)], args := [d1, d2, d3] }
  | _ => none }
def FnExactTurnByWrongFalsely : Prop := fnExactTurnByRow.holds Try.pinned (OpenSpec.ofChange fnExactTurnByWrong)

/-- 'laws.FnExactTurnLong': WHATEVER THE INPUT: true; the input reads as it did. -/
def fnExactTurnLongSpec : ChangeSpec := { name := "fnExactTurnLong", fn := fun _ => fun
  | [d1, d2] => { results := [.lit (.bool true)], args := [d1, d2] }
  | _ => none }
def fnExactTurnLongRow : OpenClaim := { program := "ytiidbbnclhknpaa", sum := "9d48cd00b6374c97304504bfc51165f63b39431ac2161cdc4bc90b99db4f7c7c", func := "loop.example/alidade/laws.FnExactTurnLong", spec := "fnExactTurnLong", apart := false }
def FnExactTurnLongSaid : Prop := fnExactTurnLongRow.holds Try.pinned (OpenSpec.ofChange fnExactTurnLongSpec)

/-- ITS FALSE NEIGHBOUR: 'it returns false'. Refute it at one input. -/
def fnExactTurnLongWrong : ChangeSpec := { name := "fnExactTurnLong", fn := fun _ => fun
  | [d1, d2] => { results := [.lit (.bool false)], args := [d1, d2] }
  | _ => none }
def FnExactTurnLongWrongFalsely : Prop := fnExactTurnLongRow.holds Try.pinned (OpenSpec.ofChange fnExactTurnLongWrong)

/- THE SECOND FORM. 'bulk': how many values and letters a reading holds, each counted each time it is reached (what is shared counts as often as it is met; a slice's spare places count too). A statement '..UptoSaid' is the law's where the arguments, and the package variables that the reading takes, are together of bulk at most 1048576: NARROWER than '..Said'. Prove '..Said' where nothing that the law and all that it calls make is longer than what came in: it says more and counts as full. Else prove '..UptoSaid'. A law counts once. -/
mutual
def uptoBulk {H : Type} : DataW H → Nat
  | .lit (.string bytes) => bytes.length + 1
  | .lit _ => 1
  | .nil => 1
  | .ptr d => uptoBulk d + 1
  | .slice elems spare => uptoBulkAll elems + uptoBulkAll spare + 1
  | .agg parts => uptoBulkAll parts + 1
  | .iface _ d => uptoBulk d + 1
  | .map entries => uptoBulkEntries entries + 1
  | .held _ => 1
def uptoBulkAll {H : Type} : List (DataW H) → Nat
  | [] => 0
  | d :: r => uptoBulk d + uptoBulkAll r
def uptoBulkEntries {H : Type} : List (Lit × DataW H) → Nat
  | [] => 0
  | x :: r => uptoBulkEntry x + uptoBulkEntries r
def uptoBulkEntry {H : Type} : Lit × DataW H → Nat
  | (.string bytes, d) => bytes.length + uptoBulk d + 1
  | (_, d) => uptoBulk d + 1
 end
def uptoSmall : (H : Type) → List (DataW H) → Bool := fun _ ds => decide (uptoBulkAll ds ≤ 1048576)
def OpenSpec.upto (s : _root_.Go.ChangeSpec) : _root_.Go.OpenSpec := { _root_.Go.OpenSpec.ofChange s with cond := some uptoSmall }

/-- 'laws.FnTurnLong', WHERE WHAT IT READS IS OF BULK AT MOST 1048576: true; the input reads as it did. -/
def fnTurnLongUptoRow : OpenClaim := { program := "ytiidbbnclhknpaa", sum := "9d48cd00b6374c97304504bfc51165f63b39431ac2161cdc4bc90b99db4f7c7c", func := "loop.example/alidade/laws.FnTurnLong", spec := "fnTurnLong", apart := false, narrowed := true }
def FnTurnLongUptoSaid : Prop := fnTurnLongUptoRow.holds Try.pinned (OpenSpec.upto fnTurnLongSpec)

/-- 'laws.FnTurnWhole', WHERE WHAT IT READS IS OF BULK AT MOST 1048576: true; the input reads as it did. -/
def fnTurnWholeUptoRow : OpenClaim := { program := "ytiidbbnclhknpaa", sum := "9d48cd00b6374c97304504bfc51165f63b39431ac2161cdc4bc90b99db4f7c7c", func := "loop.example/alidade/laws.FnTurnWhole", spec := "fnTurnWhole", unfollowed := true, recurses := true, apart := false, narrowed := true }
def FnTurnWholeUptoSaid : Prop := fnTurnWholeUptoRow.holds Try.pinned (OpenSpec.upto fnTurnWholeSpec)

/-- 'laws.FnExactTurnBy', WHERE WHAT IT READS IS OF BULK AT MOST 1048576: true; the input reads as it did. -/
def fnExactTurnByUptoRow : OpenClaim := { program := "ytiidbbnclhknpaa", sum := "9d48cd00b6374c97304504bfc51165f63b39431ac2161cdc4bc90b99db4f7c7c", func := "loop.example/alidade/laws.FnExactTurnBy", spec := "fnExactTurnBy", unfollowed := true, recurses := true, apart := false, narrowed := true }
def FnExactTurnByUptoSaid : Prop := fnExactTurnByUptoRow.holds Try.pinned (OpenSpec.upto fnExactTurnBySpec)

/-- 'laws.FnExactTurnLong', WHERE WHAT IT READS IS OF BULK AT MOST 1048576: true; the input reads as it did. -/
def fnExactTurnLongUptoRow : OpenClaim := { program := "ytiidbbnclhknpaa", sum := "9d48cd00b6374c97304504bfc51165f63b39431ac2161cdc4bc90b99db4f7c7c", func := "loop.example/alidade/laws.FnExactTurnLong", spec := "fnExactTurnLong", apart := false, narrowed := true }
def FnExactTurnLongUptoSaid : Prop := fnExactTurnLongUptoRow.holds Try.pinned (OpenSpec.upto fnExactTurnLongSpec)

end Rows
end Go.Proofs.Ytiidbbnclhknpaa
