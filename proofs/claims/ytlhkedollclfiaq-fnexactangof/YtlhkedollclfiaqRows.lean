/-
  No cell of these rows narrows 'for every input' (looked for: loops, veiled, ifaces, maps, wideKeys, modest, calm, conditions, laid).
  DERIVED. THE GIVEN ROWS OF THIS SEAT. 5 by the template 'for every input the law returns true; each argument reads behind the call as it read before'; 0 by the template 'total and deterministic' (their statements: YtlhkedollclfiaqTotals.lean).
  GIVEN WITH THE SEED: the statements are not yours to turn. If you find one false, say at which input.
  Laid BY PROGRAM, IN A SANDBOX (cutbox-rows.mjs): the forced cells as the released guide's own fill.sh prints them over the translation a250f29a333ed820… (all of the seat's roots in one cut). By AI agents, Wed Nov 11 2026. No macro, syntax, notation, axiom, sorry.
-/
import Derived.Test.YtlhkedollclfiaqChecked
import GoSem.Claim
import GoSem.ClaimJoined
import GoSem.ClaimMapViews
import Derived.JoinedTies
import Derived.KernelRfl
namespace Go.Proofs.Ytlhkedollclfiaq
/- THE CELL 'sum', in the pinned program and in every row, IS THE sha256 OF THE DUMP (.gsa) THAT YtlhkedollclfiaqProg.lean LOADS. Nothing in Lean hashes anything: it is a label: what it is worth is what the hold of that sum in a sandbox is worth. -/
noncomputable def Try.pinned : Pinned := { name := "ytlhkedollclfiaq", sum := "a250f29a333ed820e13d4ae58f19064369c31795b5d9ae46fcb30a50bac0b302", checked := Try.checked }
namespace Rows
def none {H : Type} : Left H := { results := [], args := [] }

/-- 'laws.FnExactAngNorm': WHATEVER THE INPUT: true; the input reads as it did. -/
def fnExactAngNormSpec : ChangeSpec := { name := "fnExactAngNorm", fn := fun _ => fun
  | [d] => { results := [.lit (.bool true)], args := [d] }
  | _ => none }
def fnExactAngNormRow : OpenClaim := { program := "ytlhkedollclfiaq", sum := "a250f29a333ed820e13d4ae58f19064369c31795b5d9ae46fcb30a50bac0b302", func := "loop.example/alidade/laws.FnExactAngNorm", spec := "fnExactAngNorm", apart := false }
def FnExactAngNormSaid : Prop := fnExactAngNormRow.holds Try.pinned (OpenSpec.ofChange fnExactAngNormSpec)

/-- ITS FALSE NEIGHBOUR: 'it returns false'. Refute it at one input. -/
def fnExactAngNormWrong : ChangeSpec := { name := "fnExactAngNorm", fn := fun _ => fun
  | [d] => { results := [.lit (.bool false)], args := [d] }
  | _ => none }
def FnExactAngNormWrongFalsely : Prop := fnExactAngNormRow.holds Try.pinned (OpenSpec.ofChange fnExactAngNormWrong)

/-- 'laws.FnExactAngDiff': WHATEVER THE INPUT: true; the input reads as it did. -/
def fnExactAngDiffSpec : ChangeSpec := { name := "fnExactAngDiff", fn := fun _ => fun
  | [d1, d2] => { results := [.lit (.bool true)], args := [d1, d2] }
  | _ => none }
def fnExactAngDiffRow : OpenClaim := { program := "ytlhkedollclfiaq", sum := "a250f29a333ed820e13d4ae58f19064369c31795b5d9ae46fcb30a50bac0b302", func := "loop.example/alidade/laws.FnExactAngDiff", spec := "fnExactAngDiff", apart := false }
def FnExactAngDiffSaid : Prop := fnExactAngDiffRow.holds Try.pinned (OpenSpec.ofChange fnExactAngDiffSpec)

/-- ITS FALSE NEIGHBOUR: 'it returns false'. Refute it at one input. -/
def fnExactAngDiffWrong : ChangeSpec := { name := "fnExactAngDiff", fn := fun _ => fun
  | [d1, d2] => { results := [.lit (.bool false)], args := [d1, d2] }
  | _ => none }
def FnExactAngDiffWrongFalsely : Prop := fnExactAngDiffRow.holds Try.pinned (OpenSpec.ofChange fnExactAngDiffWrong)

/-- 'laws.FnExactAngParts': WHATEVER THE INPUT: true; the input reads as it did. -/
def fnExactAngPartsSpec : ChangeSpec := { name := "fnExactAngParts", fn := fun _ => fun
  | [d] => { results := [.lit (.bool true)], args := [d] }
  | _ => none }
def fnExactAngPartsRow : OpenClaim := { program := "ytlhkedollclfiaq", sum := "a250f29a333ed820e13d4ae58f19064369c31795b5d9ae46fcb30a50bac0b302", func := "loop.example/alidade/laws.FnExactAngParts", spec := "fnExactAngParts", unfollowed := true, recurses := true, apart := false }
def FnExactAngPartsSaid : Prop := fnExactAngPartsRow.holds Try.pinned (OpenSpec.ofChange fnExactAngPartsSpec)

/-- ITS FALSE NEIGHBOUR: 'it returns false'. Refute it at one input. -/
def fnExactAngPartsWrong : ChangeSpec := { name := "fnExactAngParts", fn := fun _ => fun
  | [d] => { results := [.lit (.bool false)], args := [d] }
  | _ => none }
def FnExactAngPartsWrongFalsely : Prop := fnExactAngPartsRow.holds Try.pinned (OpenSpec.ofChange fnExactAngPartsWrong)

/-- 'laws.FnExactAngOf': WHATEVER THE INPUT: true; the input reads as it did. -/
def fnExactAngOfSpec : ChangeSpec := { name := "fnExactAngOf", fn := fun _ => fun
  | [d] => { results := [.lit (.bool true)], args := [d] }
  | _ => none }
def fnExactAngOfRow : OpenClaim := { program := "ytlhkedollclfiaq", sum := "a250f29a333ed820e13d4ae58f19064369c31795b5d9ae46fcb30a50bac0b302", func := "loop.example/alidade/laws.FnExactAngOf", spec := "fnExactAngOf", apart := false }
def FnExactAngOfSaid : Prop := fnExactAngOfRow.holds Try.pinned (OpenSpec.ofChange fnExactAngOfSpec)

/-- ITS FALSE NEIGHBOUR: 'it returns false'. Refute it at one input. -/
def fnExactAngOfWrong : ChangeSpec := { name := "fnExactAngOf", fn := fun _ => fun
  | [d] => { results := [.lit (.bool false)], args := [d] }
  | _ => none }
def FnExactAngOfWrongFalsely : Prop := fnExactAngOfRow.holds Try.pinned (OpenSpec.ofChange fnExactAngOfWrong)

/-- 'laws.FnExactAngText': WHATEVER THE INPUT: true; the input reads as it did. -/
def fnExactAngTextSpec : ChangeSpec := { name := "fnExactAngText", fn := fun _ => fun
  | [d] => { results := [.lit (.bool true)], args := [d] }
  | _ => none }
def fnExactAngTextRow : OpenClaim := { program := "ytlhkedollclfiaq", sum := "a250f29a333ed820e13d4ae58f19064369c31795b5d9ae46fcb30a50bac0b302", func := "loop.example/alidade/laws.FnExactAngText", spec := "fnExactAngText", unfollowed := true, recurses := true, apart := false }
def FnExactAngTextSaid : Prop := fnExactAngTextRow.holds Try.pinned (OpenSpec.ofChange fnExactAngTextSpec)

/-- ITS FALSE NEIGHBOUR: 'it returns false'. Refute it at one input. -/
def fnExactAngTextWrong : ChangeSpec := { name := "fnExactAngText", fn := fun _ => fun
  | [d] => { results := [.lit (.bool false)], args := [d] }
  | _ => none }
def FnExactAngTextWrongFalsely : Prop := fnExactAngTextRow.holds Try.pinned (OpenSpec.ofChange fnExactAngTextWrong)

/- THE SECOND FORM. 'bulk': how many values and letters a reading holds, each counted each time it is reached (what is shared counts as often as it is met; a slice's spare places count too). A statement '..UptoSaid' is the law's where the arguments, and the package variables that the reading takes, are together of bulk at most 1048576: NARROWER than '..Said'. Prove '..Said' where nothing that the law and all that it calls make is longer than what came in: it says more and counts as full. Else prove '..UptoSaid'. A law counts once. -/
mutual
def uptoBulk {H : Type} : DataW H → Nat
  | .lit (.string bytes) => bytes.length + 1
  | .lit _ => 1
  | .nil => 1
  | .ptr d => uptoBulk d + 1
  | .slice elems spare => uptoBulkAll elems + uptoBulkAll spare + 1
  | .agg parts => uptoBulkAll parts + 1
  | .iface _ d => uptoBulk d + 1
  | .map entries => uptoBulkEntries entries + 1
  | .held _ => 1
def uptoBulkAll {H : Type} : List (DataW H) → Nat
  | [] => 0
  | d :: r => uptoBulk d + uptoBulkAll r
def uptoBulkEntries {H : Type} : List (Lit × DataW H) → Nat
  | [] => 0
  | x :: r => uptoBulkEntry x + uptoBulkEntries r
def uptoBulkEntry {H : Type} : Lit × DataW H → Nat
  | (.string bytes, d) => bytes.length + uptoBulk d + 1
  | (_, d) => uptoBulk d + 1
 end
def uptoSmall : (H : Type) → List (DataW H) → Bool := fun _ ds => decide (uptoBulkAll ds ≤ 1048576)
def OpenSpec.upto (s : _root_.Go.ChangeSpec) : _root_.Go.OpenSpec := { _root_.Go.OpenSpec.ofChange s with cond := some uptoSmall }

/-- 'laws.FnExactAngNorm', WHERE WHAT IT READS IS OF BULK AT MOST 1048576: true; the input reads as it did. -/
def fnExactAngNormUptoRow : OpenClaim := { program := "ytlhkedollclfiaq", sum := "a250f29a333ed820e13d4ae58f19064369c31795b5d9ae46fcb30a50bac0b302", func := "loop.example/alidade/laws.FnExactAngNorm", spec := "fnExactAngNorm", apart := false, narrowed := true }
def FnExactAngNormUptoSaid : Prop := fnExactAngNormUptoRow.holds Try.pinned (OpenSpec.upto fnExactAngNormSpec)

/-- 'laws.FnExactAngDiff', WHERE WHAT IT READS IS OF BULK AT MOST 1048576: true; the input reads as it did. -/
def fnExactAngDiffUptoRow : OpenClaim := { program := "ytlhkedollclfiaq", sum := "a250f29a333ed820e13d4ae58f19064369c31795b5d9ae46fcb30a50bac0b302", func := "loop.example/alidade/laws.FnExactAngDiff", spec := "fnExactAngDiff", apart := false, narrowed := true }
def FnExactAngDiffUptoSaid : Prop := fnExactAngDiffUptoRow.holds Try.pinned (OpenSpec.upto fnExactAngDiffSpec)

/-- 'laws.FnExactAngParts', WHERE WHAT IT READS IS OF BULK AT MOST 1048576: true; the input reads as it did. -/
def fnExactAngPartsUptoRow : OpenClaim := { program := "ytlhkedollclfiaq", sum := "a250f29a333ed820e13d4ae58f19064369c31795b5d9ae46fcb30a50bac0b302", func := "loop.example/alidade/laws.FnExactAngParts", spec := "fnExactAngParts", unfollowed := true, recurses := true, apart := false, narrowed := true }
def FnExactAngPartsUptoSaid : Prop := fnExactAngPartsUptoRow.holds Try.pinned (OpenSpec.upto fnExactAngPartsSpec)

/-- 'laws.FnExactAngOf', WHERE WHAT IT READS IS OF BULK AT MOST 1048576: true; the input reads as it did. -/
def fnExactAngOfUptoRow : OpenClaim := { program := "ytlhkedollclfiaq", sum := "a250f29a333ed820e13d4ae58f19064369c31795b5d9ae46fcb30a50bac0b302", func := "loop.example/alidade/laws.FnExactAngOf", spec := "fnExactAngOf", apart := false, narrowed := true }
def FnExactAngOfUptoSaid : Prop := fnExactAngOfUptoRow.holds Try.pinned (OpenSpec.upto fnExactAngOfSpec)

/-- 'laws.FnExactAngText', WHERE WHAT IT READS IS OF BULK AT MOST 1048576: true; the input reads as it did. -/
def fnExactAngTextUptoRow : OpenClaim := { program := "ytlhkedollclfiaq", sum := "a250f29a333ed820e13d4ae58f19064369c31795b5d9ae46fcb30a50bac0b302", func := "loop.example/alidade/laws.FnExactAngText", spec := "fnExactAngText", unfollowed := true, recurses := true, apart := false, narrowed := true }
def FnExactAngTextUptoSaid : Prop := fnExactAngTextUptoRow.holds Try.pinned (OpenSpec.upto fnExactAngTextSpec)

end Rows
end Go.Proofs.Ytlhkedollclfiaq
