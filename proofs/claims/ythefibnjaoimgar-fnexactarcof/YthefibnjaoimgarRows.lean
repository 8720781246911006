/-
  No cell of these rows narrows 'for every input' (looked for: loops, veiled, ifaces, maps, wideKeys, modest, calm, conditions, laid).
  DERIVED. THE GIVEN ROWS OF THIS SEAT. 5 by the template 'for every input the law returns true; each argument reads behind the call as it read before'; 0 by the template 'total and deterministic' (their statements: YthefibnjaoimgarTotals.lean).
  GIVEN WITH THE SEED: the statements are not yours to turn. If you find one false, say at which input.
  Laid BY PROGRAM, IN A SANDBOX (cutbox-rows.mjs): the forced cells as the released guide's own fill.sh prints them over the translation 3fa4e63f77f000ed… (all of the seat's roots in one cut). By AI agents, Wed Nov 11 2026. No macro, syntax, notation, axiom, sorry.
-/
import Derived.Test.YthefibnjaoimgarChecked
import GoSem.Claim
import GoSem.ClaimJoined
import GoSem.ClaimMapViews
import Derived.JoinedTies
import Derived.KernelRfl
namespace Go.Proofs.Ythefibnjaoimgar
/- THE CELL 'sum', in the pinned program and in every row, IS THE sha256 OF THE DUMP (.gsa) THAT YthefibnjaoimgarProg.lean LOADS. Nothing in Lean hashes anything: it is a label: what it is worth is what the hold of that sum in a sandbox is worth. -/
noncomputable def Try.pinned : Pinned := { name := "ythefibnjaoimgar", sum := "3fa4e63f77f000ed61c1bcd702c85968a975aac80f05e8efbbcc6b1ac3f1c003", checked := Try.checked }
namespace Rows
def none {H : Type} : Left H := { results := [], args := [] }

/-- 'laws.FnExactAngRead': WHATEVER THE INPUT: true; the input reads as it did. -/
def fnExactAngReadSpec : ChangeSpec := { name := "fnExactAngRead", fn := fun _ => fun
  | [d] => { results := [.lit (.bool true)], args := [d] }
  | _ => none }
def fnExactAngReadRow : OpenClaim := { program := "ythefibnjaoimgar", sum := "3fa4e63f77f000ed61c1bcd702c85968a975aac80f05e8efbbcc6b1ac3f1c003", func := "loop.example/alidade/laws.FnExactAngRead", spec := "fnExactAngRead", unfollowed := true, recurses := true, apart := false }
def FnExactAngReadSaid : Prop := fnExactAngReadRow.holds Try.pinned (OpenSpec.ofChange fnExactAngReadSpec)

/-- ITS FALSE NEIGHBOUR: 'it returns false'. Refute it at one input. -/
def fnExactAngReadWrong : ChangeSpec := { name := "fnExactAngRead", fn := fun _ => fun
  | [d] => { results := [.lit (.bool false)], args := [d] }
  | _ => none }
def FnExactAngReadWrongFalsely : Prop := fnExactAngReadRow.holds Try.pinned (OpenSpec.ofChange fnExactAngReadWrong)

/-- 'laws.FnExactSineOf': WHATEVER THE INPUT: true; the input reads as it did. -/
def fnExactSineOfSpec : ChangeSpec := { name := "fnExactSineOf", fn := fun _ => fun
  | [d] => { results := [.lit (.bool true)], args := [d] }
  | _ => none }
def fnExactSineOfRow : OpenClaim := { program := "ythefibnjaoimgar", sum := "3fa4e63f77f000ed61c1bcd702c85968a975aac80f05e8efbbcc6b1ac3f1c003", func := "loop.example/alidade/laws.FnExactSineOf", spec := "fnExactSineOf", unfollowed := true, recurses := true, apart := false }
def FnExactSineOfSaid : Prop := fnExactSineOfRow.holds Try.pinned (OpenSpec.ofChange fnExactSineOfSpec)

/-- ITS FALSE NEIGHBOUR: 'it returns false'. Refute it at one input. -/
def fnExactSineOfWrong : ChangeSpec := { name := "fnExactSineOf", fn := fun _ => fun
  | [d] => { results := [.lit (.bool false)], args := [d] }
  | _ => none }
def FnExactSineOfWrongFalsely : Prop := fnExactSineOfRow.holds Try.pinned (OpenSpec.ofChange fnExactSineOfWrong)

/-- 'laws.FnExactCosOf': WHATEVER THE INPUT: true; the input reads as it did. -/
def fnExactCosOfSpec : ChangeSpec := { name := "fnExactCosOf", fn := fun _ => fun
  | [d] => { results := [.lit (.bool true)], args := [d] }
  | _ => none }
def fnExactCosOfRow : OpenClaim := { program := "ythefibnjaoimgar", sum := "3fa4e63f77f000ed61c1bcd702c85968a975aac80f05e8efbbcc6b1ac3f1c003", func := "loop.example/alidade/laws.FnExactCosOf", spec := "fnExactCosOf", unfollowed := true, recurses := true, apart := false }
def FnExactCosOfSaid : Prop := fnExactCosOfRow.holds Try.pinned (OpenSpec.ofChange fnExactCosOfSpec)

/-- ITS FALSE NEIGHBOUR: 'it returns false'. Refute it at one input. -/
def fnExactCosOfWrong : ChangeSpec := { name := "fnExactCosOf", fn := fun _ => fun
  | [d] => { results := [.lit (.bool false)], args := [d] }
  | _ => none }
def FnExactCosOfWrongFalsely : Prop := fnExactCosOfRow.holds Try.pinned (OpenSpec.ofChange fnExactCosOfWrong)

/-- 'laws.FnExactHalfOf': WHATEVER THE INPUT: true; the input reads as it did. -/
def fnExactHalfOfSpec : ChangeSpec := { name := "fnExactHalfOf", fn := fun _ => fun
  | [d] => { results := [.lit (.bool true)], args := [d] }
  | _ => none }
def fnExactHalfOfRow : OpenClaim := { program := "ythefibnjaoimgar", sum := "3fa4e63f77f000ed61c1bcd702c85968a975aac80f05e8efbbcc6b1ac3f1c003", func := "loop.example/alidade/laws.FnExactHalfOf", spec := "fnExactHalfOf", unfollowed := true, recurses := true, apart := false }
def FnExactHalfOfSaid : Prop := fnExactHalfOfRow.holds Try.pinned (OpenSpec.ofChange fnExactHalfOfSpec)

/-- ITS FALSE NEIGHBOUR: 'it returns false'. Refute it at one input. -/
def fnExactHalfOfWrong : ChangeSpec := { name := "fnExactHalfOf", fn := fun _ => fun
  | [d] => { results := [.lit (.bool false)], args := [d] }
  | _ => none }
def FnExactHalfOfWrongFalsely : Prop := fnExactHalfOfRow.holds Try.pinned (OpenSpec.ofChange fnExactHalfOfWrong)

/-- 'laws.FnExactArcOf': WHATEVER THE INPUT: true; the input reads as it did. -/
def fnExactArcOfSpec : ChangeSpec := { name := "fnExactArcOf", fn := fun _ => fun
  | [d] => { results := [.lit (.bool true)], args := [d] }
  | _ => none }
def fnExactArcOfRow : OpenClaim := { program := "ythefibnjaoimgar", sum := "3fa4e63f77f000ed61c1bcd702c85968a975aac80f05e8efbbcc6b1ac3f1c003", func := "loop.example/alidade/laws.FnExactArcOf", spec := "fnExactArcOf", apart := false }
def FnExactArcOfSaid : Prop := fnExactArcOfRow.holds Try.pinned (OpenSpec.ofChange fnExactArcOfSpec)

/-- ITS FALSE NEIGHBOUR: 'it returns false'. Refute it at one input. -/
def fnExactArcOfWrong : ChangeSpec := { name := "fnExactArcOf", fn := fun _ => fun
  | [d] => { results := [.lit (.bool false)], args := [d] }
  | _ => none }
def FnExactArcOfWrongFalsely : Prop := fnExactArcOfRow.holds Try.pinned (OpenSpec.ofChange fnExactArcOfWrong)

/- THE SECOND FORM. 'bulk': how many values and letters a reading holds, each counted each time it is reached (what is shared counts as often as it is met; a slice's spare places count too). A statement '..UptoSaid' is the law's where the arguments, and the package variables that the reading takes, are together of bulk at most 1048576: NARROWER than '..Said'. Prove '..Said' where nothing that the law and all that it calls make is longer than what came in: it says more and counts as full. Else prove '..UptoSaid'. A law counts once. -/
mutual
def uptoBulk {H : Type} : DataW H → Nat
  | .lit (.string bytes) => bytes.length + 1
  | .lit _ => 1
  | .nil => 1
  | .ptr d => uptoBulk d + 1
  | .slice elems spare => uptoBulkAll elems + uptoBulkAll spare + 1
  | .agg parts => uptoBulkAll parts + 1
  | .iface _ d => uptoBulk d + 1
  | .map entries => uptoBulkEntries entries + 1
  | .held _ => 1
def uptoBulkAll {H : Type} : List (DataW H) → Nat
  | [] => 0
  | d :: r => uptoBulk d + uptoBulkAll r
def uptoBulkEntries {H : Type} : List (Lit × DataW H) → Nat
  | [] => 0
  | x :: r => uptoBulkEntry x + uptoBulkEntries r
def uptoBulkEntry {H : Type} : Lit × DataW H → Nat
  | (.string bytes, d) => bytes.length + uptoBulk d + 1
  | (_, d) => uptoBulk d + 1
 end
def uptoSmall : (H : Type) → List (DataW H) → Bool := fun _ ds => decide (uptoBulkAll ds ≤ 1048576)
def OpenSpec.upto (s : _root_.Go.ChangeSpec) : _root_.Go.OpenSpec := { _root_.Go.OpenSpec.ofChange s with cond := some uptoSmall }

/-- 'laws.FnExactAngRead', WHERE WHAT IT READS IS OF BULK AT MOST 1048576: true; the input reads as it did. -/
def fnExactAngReadUptoRow : OpenClaim := { program := "ythefibnjaoimgar", sum := "3fa4e63f77f000ed61c1bcd702c85968a975aac80f05e8efbbcc6b1ac3f1c003", func := "loop.example/alidade/laws.FnExactAngRead", spec := "fnExactAngRead", unfollowed := true, recurses := true, apart := false, narrowed := true }
def FnExactAngReadUptoSaid : Prop := fnExactAngReadUptoRow.holds Try.pinned (OpenSpec.upto fnExactAngReadSpec)

/-- 'laws.FnExactSineOf', WHERE WHAT IT READS IS OF BULK AT MOST 1048576: true; the input reads as it did. -/
def fnExactSineOfUptoRow : OpenClaim := { program := "ythefibnjaoimgar", sum := "3fa4e63f77f000ed61c1bcd702c85968a975aac80f05e8efbbcc6b1ac3f1c003", func := "loop.example/alidade/laws.FnExactSineOf", spec := "fnExactSineOf", unfollowed := true, recurses := true, apart := false, narrowed := true }
def FnExactSineOfUptoSaid : Prop := fnExactSineOfUptoRow.holds Try.pinned (OpenSpec.upto fnExactSineOfSpec)

/-- 'laws.FnExactCosOf', WHERE WHAT IT READS IS OF BULK AT MOST 1048576: true; the input reads as it did. -/
def fnExactCosOfUptoRow : OpenClaim := { program := "ythefibnjaoimgar", sum := "3fa4e63f77f000ed61c1bcd702c85968a975aac80f05e8efbbcc6b1ac3f1c003", func := "loop.example/alidade/laws.FnExactCosOf", spec := "fnExactCosOf", unfollowed := true, recurses := true, apart := false, narrowed := true }
def FnExactCosOfUptoSaid : Prop := fnExactCosOfUptoRow.holds Try.pinned (OpenSpec.upto fnExactCosOfSpec)

/-- 'laws.FnExactHalfOf', WHERE WHAT IT READS IS OF BULK AT MOST 1048576: true; the input reads as it did. -/
def fnExactHalfOfUptoRow : OpenClaim := { program := "ythefibnjaoimgar", sum := "3fa4e63f77f000ed61c1bcd702c85968a975aac80f05e8efbbcc6b1ac3f1c003", func := "loop.example/alidade/laws.FnExactHalfOf", spec := "fnExactHalfOf", unfollowed := true, recurses := true, apart := false, narrowed := true }
def FnExactHalfOfUptoSaid : Prop := fnExactHalfOfUptoRow.holds Try.pinned (OpenSpec.upto fnExactHalfOfSpec)

/-- 'laws.FnExactArcOf', WHERE WHAT IT READS IS OF BULK AT MOST 1048576: true; the input reads as it did. -/
def fnExactArcOfUptoRow : OpenClaim := { program := "ythefibnjaoimgar", sum := "3fa4e63f77f000ed61c1bcd702c85968a975aac80f05e8efbbcc6b1ac3f1c003", func := "loop.example/alidade/laws.FnExactArcOf", spec := "fnExactArcOf", apart := false, narrowed := true }
def FnExactArcOfUptoSaid : Prop := fnExactArcOfUptoRow.holds Try.pinned (OpenSpec.upto fnExactArcOfSpec)

end Rows
end Go.Proofs.Ythefibnjaoimgar
