/-
  No cell of these rows narrows 'for every input' (looked for: loops, veiled, ifaces, maps, wideKeys, modest, calm, conditions, laid).
  DERIVED. THE GIVEN ROWS OF THIS SEAT. 3 by the template 'for every input the law returns true; each argument reads behind the call as it read before'; 0 by the template 'total and deterministic' (their statements: YtelkblmkpinpoabTotals.lean).
  GIVEN WITH THE SEED: the statements are not yours to turn. If you find one false, say at which input.
  Laid BY PROGRAM, IN A SANDBOX (cutbox-rows.mjs): the forced cells as the released guide's own fill.sh prints them over the translation b09011dcee5c5465… (all of the seat's roots in one cut). By AI agents, Wed Nov 11 2026. No macro, syntax, notation, axiom, sorry.
-/
import Derived.Test.YtelkblmkpinpoabChecked
import GoSem.Claim
import GoSem.ClaimJoined
import GoSem.ClaimMapViews
import Derived.JoinedTies
import Derived.KernelRfl
namespace Go.Proofs.Ytelkblmkpinpoab
/- THE CELL 'sum', in the pinned program and in every row, IS THE sha256 OF THE DUMP (.gsa) THAT YtelkblmkpinpoabProg.lean LOADS. Nothing in Lean hashes anything: it is a label: what it is worth is what the hold of that sum in a sandbox is worth. -/
noncomputable def Try.pinned : Pinned := { name := "ytelkblmkpinpoab", sum := "b09011dcee5c54652367dd0cb7bca04c740b892901aabc9a2336ac430221ab19", checked := Try.checked }
namespace Rows
def none {H : Type} : Left H := { results := [], args := [] }

/-- 'laws.FnNumMore': WHATEVER THE INPUT: true; the input reads as it did. -/
def fnNumMoreSpec : ChangeSpec := { name := "fnNumMore", fn := fun _ => fun
  | [d1, d2] => { results := [.lit (.bool true)], args := [d1, d2] }
  | _ => none }
def fnNumMoreRow : OpenClaim := { program := "ytelkblmkpinpoab", sum := "b09011dcee5c54652367dd0cb7bca04c740b892901aabc9a2336ac430221ab19", func := "loop.example/alidade/laws.FnNumMore", spec := "fnNumMore", unfollowed := true, recurses := true, apart := false }
def FnNumMoreSaid : Prop := fnNumMoreRow.holds Try.pinned (OpenSpec.ofChange fnNumMoreSpec)

/-- ITS FALSE NEIGHBOUR: 'it returns false'. Refute it at one input. -/
def fnNumMoreWrong : ChangeSpec := { name := "fnNumMore", fn := fun _ => fun
  | [d1, d2] => { results := [.lit (.bool false)], args := [d1, d2] }
  | _ => none }
def FnNumMoreWrongFalsely : Prop := fnNumMoreRow.holds Try.pinned (OpenSpec.ofChange fnNumMoreWrong)

/-- 'laws.FnNumWhole': WHATEVER THE INPUT: true; the input reads as it did. -/
def fnNumWholeSpec : ChangeSpec := { name := "fnNumWhole", fn := fun _ => fun
  | [d] => { results := [.lit (.bool true)], args := [d] }
  | _ => none }
def fnNumWholeRow : OpenClaim := { program := "ytelkblmkpinpoab", sum := "b09011dcee5c54652367dd0cb7bca04c740b892901aabc9a2336ac430221ab19", func := "loop.example/alidade/laws.FnNumWhole", spec := "fnNumWhole", unfollowed := true, recurses := true, apart := false }
def FnNumWholeSaid : Prop := fnNumWholeRow.holds Try.pinned (OpenSpec.ofChange fnNumWholeSpec)

/-- ITS FALSE NEIGHBOUR: 'it returns false'. Refute it at one input. -/
def fnNumWholeWrong : ChangeSpec := { name := "fnNumWhole", fn := fun _ => fun
  | [d] => { results := [.lit (.bool false)], args := [d] }
  | _ => none }
def FnNumWholeWrongFalsely : Prop := fnNumWholeRow.holds Try.pinned (OpenSpec.ofChange fnNumWholeWrong)

/-- 'laws.FnNumRoot': WHATEVER THE INPUT: true; the input reads as it did. -/
def fnNumRootSpec : ChangeSpec := { name := "fnNumRoot", fn := fun _ => fun
  | [d] => { results := [.lit (.bool true)], args := [d] }
  | _ => none }
def fnNumRootRow : OpenClaim := { program := "ytelkblmkpinpoab", sum := "b09011dcee5c54652367dd0cb7bca04c740b892901aabc9a2336ac430221ab19", func := "loop.example/alidade/laws.FnNumRoot", spec := "fnNumRoot", apart := false }
def FnNumRootSaid : Prop := fnNumRootRow.holds Try.pinned (OpenSpec.ofChange fnNumRootSpec)

/-- ITS FALSE NEIGHBOUR: 'it returns false'. Refute it at one input. -/
def fnNumRootWrong : ChangeSpec := { name := "fnNumRoot", fn := fun _ => fun
  | [d] => { results := [.lit (.bool false)], args := [d] }
  | _ => none }
def FnNumRootWrongFalsely : Prop := fnNumRootRow.holds Try.pinned (OpenSpec.ofChange fnNumRootWrong)

/- THE SECOND FORM. 'bulk': how many values and letters a reading holds, each counted each time it is reached (what is shared counts as often as it is met; a slice's spare places count too). A statement '..UptoSaid' is the law's where the arguments, and the package variables that the reading takes, are together of bulk at most 1048576: NARROWER than '..Said'. Prove '..Said' where nothing that the law and all that it calls make is longer than what came in: it says more and counts as full. Else prove '..UptoSaid'. A law counts once. -/
mutual
def uptoBulk {H : Type} : DataW H → Nat
  | .lit (.string bytes) => bytes.length + 1
  | .lit _ => 1
  | .nil => 1
  | .ptr d => uptoBulk d + 1
  | .slice elems spare => uptoBulkAll elems + uptoBulkAll spare + 1
  | .agg parts => uptoBulkAll parts + 1
  | .iface _ d => uptoBulk d + 1
  | .map entries => uptoBulkEntries entries + 1
  | .held _ => 1
def uptoBulkAll {H : Type} : List (DataW H) → Nat
  | [] => 0
  | d :: r => uptoBulk d + uptoBulkAll r
def uptoBulkEntries {H : Type} : List (Lit × DataW H) → Nat
  | [] => 0
  | x :: r => uptoBulkEntry x + uptoBulkEntries r
def uptoBulkEntry {H : Type} : Lit × DataW H → Nat
  | (.string bytes, d) => bytes.length + uptoBulk d + 1
  | (_, d) => uptoBulk d + 1
 end
def uptoSmall : (H : Type) → List (DataW H) → Bool := fun _ ds => decide (uptoBulkAll ds ≤ 1048576)
def OpenSpec.upto (s : _root_.Go.ChangeSpec) : _root_.Go.OpenSpec := { _root_.Go.OpenSpec.ofChange s with cond := some uptoSmall }

/-- 'laws.FnNumMore', WHERE WHAT IT READS IS OF BULK AT MOST 1048576: true; the input reads as it did. -/
def fnNumMoreUptoRow : OpenClaim := { program := "ytelkblmkpinpoab", sum := "b09011dcee5c54652367dd0cb7bca04c740b892901aabc9a2336ac430221ab19", func := "loop.example/alidade/laws.FnNumMore", spec := "fnNumMore", unfollowed := true, recurses := true, apart := false, narrowed := true }
def FnNumMoreUptoSaid : Prop := fnNumMoreUptoRow.holds Try.pinned (OpenSpec.upto fnNumMoreSpec)

/-- 'laws.FnNumWhole', WHERE WHAT IT READS IS OF BULK AT MOST 1048576: true; the input reads as it did. -/
def fnNumWholeUptoRow : OpenClaim := { program := "ytelkblmkpinpoab", sum := "b09011dcee5c54652367dd0cb7bca04c740b892901aabc9a2336ac430221ab19", func := "loop.example/alidade/laws.FnNumWhole", spec := "fnNumWhole", unfollowed := true, recurses := true, apart := false, narrowed := true }
def FnNumWholeUptoSaid : Prop := fnNumWholeUptoRow.holds Try.pinned (OpenSpec.upto fnNumWholeSpec)

/-- 'laws.FnNumRoot', WHERE WHAT IT READS IS OF BULK AT MOST 1048576: true; the input reads as it did. -/
def fnNumRootUptoRow : OpenClaim := { program := "ytelkblmkpinpoab", sum := "b09011dcee5c54652367dd0cb7bca04c740b892901aabc9a2336ac430221ab19", func := "loop.example/alidade/laws.FnNumRoot", spec := "fnNumRoot", apart := false, narrowed := true }
def FnNumRootUptoSaid : Prop := fnNumRootUptoRow.holds Try.pinned (OpenSpec.upto fnNumRootSpec)

end Rows
end Go.Proofs.Ytelkblmkpinpoab
