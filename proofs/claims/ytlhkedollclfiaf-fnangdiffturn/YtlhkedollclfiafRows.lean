/-
  No cell of these rows narrows 'for every input' (looked for: loops, veiled, ifaces, maps, wideKeys, modest, calm, conditions, laid).
  DERIVED. THE GIVEN ROWS OF THIS SEAT. 6 by the template 'for every input the law returns true; each argument reads behind the call as it read before'; 0 by the template 'total and deterministic' (their statements: YtlhkedollclfiafTotals.lean).
  GIVEN WITH THE SEED: the statements are not yours to turn. If you find one false, say at which input.
  Laid BY PROGRAM, IN A SANDBOX (cutbox-rows.mjs): the forced cells as the released guide's own fill.sh prints them over the translation 6a07d08091bbb3f4… (all of the seat's roots in one cut). By AI agents, Wed Nov 11 2026. No macro, syntax, notation, axiom, sorry.
-/
import Derived.Test.YtlhkedollclfiafChecked
import GoSem.Claim
import GoSem.ClaimJoined
import GoSem.ClaimMapViews
import Derived.JoinedTies
import Derived.KernelRfl
namespace Go.Proofs.Ytlhkedollclfiaf
/- THE CELL 'sum', in the pinned program and in every row, IS THE sha256 OF THE DUMP (.gsa) THAT YtlhkedollclfiafProg.lean LOADS. Nothing in Lean hashes anything: it is a label: what it is worth is what the hold of that sum in a sandbox is worth. -/
noncomputable def Try.pinned : Pinned := { name := "ytlhkedollclfiaf", sum := "6a07d08091bbb3f459755a56d1617256f16251de147be20023f49c24be9f4132", checked := Try.checked }
namespace Rows
def none {H : Type} : Left H := { results := [], args := [] }

/-- 'laws.FnAngNorm': WHATEVER THE INPUT: true; the input reads as it did. -/
def fnAngNormSpec : ChangeSpec := { name := "fnAngNorm", fn := fun _ => fun
  | [d1, d2] => { results := [.lit (.bool true)], args := [d1, d2] }
  | _ => none }
def fnAngNormRow : OpenClaim := { program := "ytlhkedollclfiaf", sum := "6a07d08091bbb3f459755a56d1617256f16251de147be20023f49c24be9f4132", func := "loop.example/alidade/laws.FnAngNorm", spec := "fnAngNorm", apart := false }
def FnAngNormSaid : Prop := fnAngNormRow.holds Try.pinned (OpenSpec.ofChange fnAngNormSpec)

/-- ITS FALSE NEIGHBOUR: 'it returns false'. Refute it at one input. -/
def fnAngNormWrong : ChangeSpec := { name := "fnAngNorm", fn := fun _ => fun
  | [d1, d2] => { results := [.lit (.bool false)], args := [d1, d2] }
  | _ => none }
def FnAngNormWrongFalsely : Prop := fnAngNormRow.holds Try.pinned (OpenSpec.ofChange fnAngNormWrong)

/-- 'laws.FnAngDiff': WHATEVER THE INPUT: true; the input reads as it did. -/
def fnAngDiffSpec : ChangeSpec := { name := "fnAngDiff", fn := fun _ => fun
  | [d] => { results := [.lit (.bool true)], args := [d] }
  | _ => none }
def fnAngDiffRow : OpenClaim := { program := "ytlhkedollclfiaf", sum := "6a07d08091bbb3f459755a56d1617256f16251de147be20023f49c24be9f4132", func := "loop.example/alidade/laws.FnAngDiff", spec := "fnAngDiff", apart := false }
def FnAngDiffSaid : Prop := fnAngDiffRow.holds Try.pinned (OpenSpec.ofChange fnAngDiffSpec)

/-- ITS FALSE NEIGHBOUR: 'it returns false'. Refute it at one input. -/
def fnAngDiffWrong : ChangeSpec := { name := "fnAngDiff", fn := fun _ => fun
  | [d] => { results := [.lit (.bool false)], args := [d] }
  | _ => none }
def FnAngDiffWrongFalsely : Prop := fnAngDiffRow.holds Try.pinned (OpenSpec.ofChange fnAngDiffWrong)

/-- 'laws.FnAngDiffTurn': WHATEVER THE INPUT: true; the input reads as it did. -/
def fnAngDiffTurnSpec : ChangeSpec := { name := "fnAngDiffTurn", fn := fun _ => fun
  | [d] => { results := [.lit (.bool true)], args := [d] }
  | _ => none }
def fnAngDiffTurnRow : OpenClaim := { program := "ytlhkedollclfiaf", sum := "6a07d08091bbb3f459755a56d1617256f16251de147be20023f49c24be9f4132", func := "loop.example/alidade/laws.FnAngDiffTurn", spec := "fnAngDiffTurn", apart := false }
def FnAngDiffTurnSaid : Prop := fnAngDiffTurnRow.holds Try.pinned (OpenSpec.ofChange fnAngDiffTurnSpec)

/-- ITS FALSE NEIGHBOUR: 'it returns false'. Refute it at one input. -/
def fnAngDiffTurnWrong : ChangeSpec := { name := "fnAngDiffTurn", fn := fun _ => fun
  | [d] => { results := [.lit (.bool false)], args := [d] }
  | _ => none }
def FnAngDiffTurnWrongFalsely : Prop := fnAngDiffTurnRow.holds Try.pinned (OpenSpec.ofChange fnAngDiffTurnWrong)

/-- 'laws.FnAngParts': WHATEVER THE INPUT: true; the input reads as it did. -/
def fnAngPartsSpec : ChangeSpec := { name := "fnAngParts", fn := fun _ => fun
  | [d] => { results := [.lit (.bool true)], args := [d] }
  | _ => none }
def fnAngPartsRow : OpenClaim := { program := "ytlhkedollclfiaf", sum := "6a07d08091bbb3f459755a56d1617256f16251de147be20023f49c24be9f4132", func := "loop.example/alidade/laws.FnAngParts", spec := "fnAngParts", unfollowed := true, recurses := true, apart := false }
def FnAngPartsSaid : Prop := fnAngPartsRow.holds Try.pinned (OpenSpec.ofChange fnAngPartsSpec)

/-- ITS FALSE NEIGHBOUR: 'it returns false'. Refute it at one input. -/
def fnAngPartsWrong : ChangeSpec := { name := "fnAngParts", fn := fun _ => fun
  | [d] => { results := [.lit (.bool false)], args := [d] }
  | _ => none }
def FnAngPartsWrongFalsely : Prop := fnAngPartsRow.holds Try.pinned (OpenSpec.ofChange fnAngPartsWrong)

/-- 'laws.FnAngOf': WHATEVER THE INPUT: true; the input reads as it did. -/
def fnAngOfSpec : ChangeSpec := { name := "fnAngOf", fn := fun _ => fun
  | [d] => { results := [.lit (.bool true)], args := [d] }
  | _ => none }
def fnAngOfRow : OpenClaim := { program := "ytlhkedollclfiaf", sum := "6a07d08091bbb3f459755a56d1617256f16251de147be20023f49c24be9f4132", func := "loop.example/alidade/laws.FnAngOf", spec := "fnAngOf", unfollowed := true, recurses := true, apart := false }
def FnAngOfSaid : Prop := fnAngOfRow.holds Try.pinned (OpenSpec.ofChange fnAngOfSpec)

/-- ITS FALSE NEIGHBOUR: 'it returns false'. Refute it at one input. -/
def fnAngOfWrong : ChangeSpec := { name := "fnAngOf", fn := fun _ => fun
  | [d] => { results := [.lit (.bool false)], args := [d] }
  | _ => none }
def FnAngOfWrongFalsely : Prop := fnAngOfRow.holds Try.pinned (OpenSpec.ofChange fnAngOfWrong)

/-- 'laws.FnAngBack': WHATEVER THE INPUT: true; the input reads as it did. -/
def fnAngBackSpec : ChangeSpec := { name := "fnAngBack", fn := fun _ => fun
  | [d] => { results := [.lit (.bool true)], args := [d] }
  | _ => none }
def fnAngBackRow : OpenClaim := { program := "ytlhkedollclfiaf", sum := "6a07d08091bbb3f459755a56d1617256f16251de147be20023f49c24be9f4132", func := "loop.example/alidade/laws.FnAngBack", spec := "fnAngBack", unfollowed := true, recurses := true, apart := false }
def FnAngBackSaid : Prop := fnAngBackRow.holds Try.pinned (OpenSpec.ofChange fnAngBackSpec)

/-- ITS FALSE NEIGHBOUR: 'it returns false'. Refute it at one input. -/
def fnAngBackWrong : ChangeSpec := { name := "fnAngBack", fn := fun _ => fun
  | [d] => { results := [.lit (.bool false)], args := [d] }
  | _ => none }
def FnAngBackWrongFalsely : Prop := fnAngBackRow.holds Try.pinned (OpenSpec.ofChange fnAngBackWrong)

/- THE SECOND FORM. 'bulk': how many values and letters a reading holds, each counted each time it is reached (what is shared counts as often as it is met; a slice's spare places count too). A statement '..UptoSaid' is the law's where the arguments, and the package variables that the reading takes, are together of bulk at most 1048576: NARROWER than '..Said'. Prove '..Said' where nothing that the law and all that it calls make is longer than what came in: it says more and counts as full. Else prove '..UptoSaid'. A law counts once. -/
mutual
def uptoBulk {H : Type} : DataW H → Nat
  | .lit (.string bytes) => bytes.length + 1
  | .lit _ => 1
  | .nil => 1
  | .ptr d => uptoBulk d + 1
  | .slice elems spare => uptoBulkAll elems + uptoBulkAll spare + 1
  | .agg parts => uptoBulkAll parts + 1
  | .iface _ d => uptoBulk d + 1
  | .map entries => uptoBulkEntries entries + 1
  | .held _ => 1
def uptoBulkAll {H : Type} : List (DataW H) → Nat
  | [] => 0
  | d :: r => uptoBulk d + uptoBulkAll r
def uptoBulkEntries {H : Type} : List (Lit × DataW H) → Nat
  | [] => 0
  | x :: r => uptoBulkEntry x + uptoBulkEntries r
def uptoBulkEntry {H : Type} : Lit × DataW H → Nat
  | (.string bytes, d) => bytes.length + uptoBulk d + 1
  | (_, d) => uptoBulk d + 1
 end
def uptoSmall : (H : Type) → List (DataW H) → Bool := fun _ ds => decide (uptoBulkAll ds ≤ 1048576)
def OpenSpec.upto (s : _root_.Go.ChangeSpec) : _root_.Go.OpenSpec := { _root_.Go.OpenSpec.ofChange s with cond := some uptoSmall }

/-- 'laws.FnAngNorm', WHERE WHAT IT READS IS OF BULK AT MOST 1048576: true; the input reads as it did. -/
def fnAngNormUptoRow : OpenClaim := { program := "ytlhkedollclfiaf", sum := "6a07d08091bbb3f459755a56d1617256f16251de147be20023f49c24be9f4132", func := "loop.example/alidade/laws.FnAngNorm", spec := "fnAngNorm", apart := false, narrowed := true }
def FnAngNormUptoSaid : Prop := fnAngNormUptoRow.holds Try.pinned (OpenSpec.upto fnAngNormSpec)

/-- 'laws.FnAngDiff', WHERE WHAT IT READS IS OF BULK AT MOST 1048576: true; the input reads as it did. -/
def fnAngDiffUptoRow : OpenClaim := { program := "ytlhkedollclfiaf", sum := "6a07d08091bbb3f459755a56d1617256f16251de147be20023f49c24be9f4132", func := "loop.example/alidade/laws.FnAngDiff", spec := "fnAngDiff", apart := false, narrowed := true }
def FnAngDiffUptoSaid : Prop := fnAngDiffUptoRow.holds Try.pinned (OpenSpec.upto fnAngDiffSpec)

/-- 'laws.FnAngDiffTurn', WHERE WHAT IT READS IS OF BULK AT MOST 1048576: true; the input reads as it did. -/
def fnAngDiffTurnUptoRow : OpenClaim := { program := "ytlhkedollclfiaf", sum := "6a07d08091bbb3f459755a56d1617256f16251de147be20023f49c24be9f4132", func := "loop.example/alidade/laws.FnAngDiffTurn", spec := "fnAngDiffTurn", apart := false, narrowed := true }
def FnAngDiffTurnUptoSaid : Prop := fnAngDiffTurnUptoRow.holds Try.pinned (OpenSpec.upto fnAngDiffTurnSpec)

/-- 'laws.FnAngParts', WHERE WHAT IT READS IS OF BULK AT MOST 1048576: true; the input reads as it did. -/
def fnAngPartsUptoRow : OpenClaim := { program := "ytlhkedollclfiaf", sum := "6a07d08091bbb3f459755a56d1617256f16251de147be20023f49c24be9f4132", func := "loop.example/alidade/laws.FnAngParts", spec := "fnAngParts", unfollowed := true, recurses := true, apart := false, narrowed := true }
def FnAngPartsUptoSaid : Prop := fnAngPartsUptoRow.holds Try.pinned (OpenSpec.upto fnAngPartsSpec)

/-- 'laws.FnAngOf', WHERE WHAT IT READS IS OF BULK AT MOST 1048576: true; the input reads as it did. -/
def fnAngOfUptoRow : OpenClaim := { program := "ytlhkedollclfiaf", sum := "6a07d08091bbb3f459755a56d1617256f16251de147be20023f49c24be9f4132", func := "loop.example/alidade/laws.FnAngOf", spec := "fnAngOf", unfollowed := true, recurses := true, apart := false, narrowed := true }
def FnAngOfUptoSaid : Prop := fnAngOfUptoRow.holds Try.pinned (OpenSpec.upto fnAngOfSpec)

/-- 'laws.FnAngBack', WHERE WHAT IT READS IS OF BULK AT MOST 1048576: true; the input reads as it did. -/
def fnAngBackUptoRow : OpenClaim := { program := "ytlhkedollclfiaf", sum := "6a07d08091bbb3f459755a56d1617256f16251de147be20023f49c24be9f4132", func := "loop.example/alidade/laws.FnAngBack", spec := "fnAngBack", unfollowed := true, recurses := true, apart := false, narrowed := true }
def FnAngBackUptoSaid : Prop := fnAngBackUptoRow.holds Try.pinned (OpenSpec.upto fnAngBackSpec)

end Rows
end Go.Proofs.Ytlhkedollclfiaf
