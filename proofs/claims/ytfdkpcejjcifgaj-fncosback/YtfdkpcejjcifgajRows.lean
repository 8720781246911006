/-
  No cell of these rows narrows 'for every input' (looked for: loops, veiled, ifaces, maps, wideKeys, modest, calm, conditions, laid).
  DERIVED. THE GIVEN ROWS OF THIS SEAT. 6 by the template 'for every input the law returns true; each argument reads behind the call as it read before'; 0 by the template 'total and deterministic' (their statements: YtfdkpcejjcifgajTotals.lean).
  GIVEN WITH THE SEED: the statements are not yours to turn. If you find one false, say at which input.
  Laid BY PROGRAM, IN A SANDBOX (cutbox-rows.mjs): the forced cells as the released guide's own fill.sh prints them over the translation 9e2ed951c02f3697… (all of the seat's roots in one cut). By AI agents, Wed Nov 11 2026. No macro, syntax, notation, axiom, sorry.
-/
import Derived.Test.YtfdkpcejjcifgajChecked
import GoSem.Claim
import GoSem.ClaimJoined
import GoSem.ClaimMapViews
import Derived.JoinedTies
import Derived.KernelRfl
namespace Go.Proofs.Ytfdkpcejjcifgaj
/- THE CELL 'sum', in the pinned program and in every row, IS THE sha256 OF THE DUMP (.gsa) THAT YtfdkpcejjcifgajProg.lean LOADS. Nothing in Lean hashes anything: it is a label: what it is worth is what the hold of that sum in a sandbox is worth. -/
noncomputable def Try.pinned : Pinned := { name := "ytfdkpcejjcifgaj", sum := "9e2ed951c02f36974f03073d5d825a04f34479d9f534cc5f18c3f68d7be6e8f3", checked := Try.checked }
namespace Rows
def none {H : Type} : Left H := { results := [], args := [] }

/-- 'laws.FnArcSum': WHATEVER THE INPUT: true; the input reads as it did. -/
def fnArcSumSpec : ChangeSpec := { name := "fnArcSum", fn := fun _ => fun
  | [d1, d2] => { results := [.lit (.bool true)], args := [d1, d2] }
  | _ => none }
def fnArcSumRow : OpenClaim := { program := "ytfdkpcejjcifgaj", sum := "9e2ed951c02f36974f03073d5d825a04f34479d9f534cc5f18c3f68d7be6e8f3", func := "loop.example/alidade/laws.FnArcSum", spec := "fnArcSum", apart := false }
def FnArcSumSaid : Prop := fnArcSumRow.holds Try.pinned (OpenSpec.ofChange fnArcSumSpec)

/-- ITS FALSE NEIGHBOUR: 'it returns false'. Refute it at one input. -/
def fnArcSumWrong : ChangeSpec := { name := "fnArcSum", fn := fun _ => fun
  | [d1, d2] => { results := [.lit (.bool false)], args := [d1, d2] }
  | _ => none }
def FnArcSumWrongFalsely : Prop := fnArcSumRow.holds Try.pinned (OpenSpec.ofChange fnArcSumWrong)

/-- 'laws.FnSineBack': WHATEVER THE INPUT: true; the input reads as it did. -/
def fnSineBackSpec : ChangeSpec := { name := "fnSineBack", fn := fun _ => fun
  | [d] => { results := [.lit (.bool true)], args := [d] }
  | _ => none }
def fnSineBackRow : OpenClaim := { program := "ytfdkpcejjcifgaj", sum := "9e2ed951c02f36974f03073d5d825a04f34479d9f534cc5f18c3f68d7be6e8f3", func := "loop.example/alidade/laws.FnSineBack", spec := "fnSineBack", unfollowed := true, recurses := true, apart := false }
def FnSineBackSaid : Prop := fnSineBackRow.holds Try.pinned (OpenSpec.ofChange fnSineBackSpec)

/-- ITS FALSE NEIGHBOUR: 'it returns false'. Refute it at one input. -/
def fnSineBackWrong : ChangeSpec := { name := "fnSineBack", fn := fun _ => fun
  | [d] => { results := [.lit (.bool false)], args := [d] }
  | _ => none }
def FnSineBackWrongFalsely : Prop := fnSineBackRow.holds Try.pinned (OpenSpec.ofChange fnSineBackWrong)

/-- 'laws.FnSineBackOf': WHATEVER THE INPUT: true; the input reads as it did. -/
def fnSineBackOfSpec : ChangeSpec := { name := "fnSineBackOf", fn := fun _ => fun
  | [d] => { results := [.lit (.bool true)], args := [d] }
  | _ => none }
def fnSineBackOfRow : OpenClaim := { program := "ytfdkpcejjcifgaj", sum := "9e2ed951c02f36974f03073d5d825a04f34479d9f534cc5f18c3f68d7be6e8f3", func := "loop.example/alidade/laws.FnSineBackOf", spec := "fnSineBackOf", unfollowed := true, recurses := true, apart := false }
def FnSineBackOfSaid : Prop := fnSineBackOfRow.holds Try.pinned (OpenSpec.ofChange fnSineBackOfSpec)

/-- ITS FALSE NEIGHBOUR: 'it returns false'. Refute it at one input. -/
def fnSineBackOfWrong : ChangeSpec := { name := "fnSineBackOf", fn := fun _ => fun
  | [d] => { results := [.lit (.bool false)], args := [d] }
  | _ => none }
def FnSineBackOfWrongFalsely : Prop := fnSineBackOfRow.holds Try.pinned (OpenSpec.ofChange fnSineBackOfWrong)

/-- 'laws.FnSineBackNeg': WHATEVER THE INPUT: true; the input reads as it did. -/
def fnSineBackNegSpec : ChangeSpec := { name := "fnSineBackNeg", fn := fun _ => fun
  | [d] => { results := [.lit (.bool true)], args := [d] }
  | _ => none }
def fnSineBackNegRow : OpenClaim := { program := "ytfdkpcejjcifgaj", sum := "9e2ed951c02f36974f03073d5d825a04f34479d9f534cc5f18c3f68d7be6e8f3", func := "loop.example/alidade/laws.FnSineBackNeg", spec := "fnSineBackNeg", unfollowed := true, recurses := true, apart := false }
def FnSineBackNegSaid : Prop := fnSineBackNegRow.holds Try.pinned (OpenSpec.ofChange fnSineBackNegSpec)

/-- ITS FALSE NEIGHBOUR: 'it returns false'. Refute it at one input. -/
def fnSineBackNegWrong : ChangeSpec := { name := "fnSineBackNeg", fn := fun _ => fun
  | [d] => { results := [.lit (.bool false)], args := [d] }
  | _ => none }
def FnSineBackNegWrongFalsely : Prop := fnSineBackNegRow.holds Try.pinned (OpenSpec.ofChange fnSineBackNegWrong)

/-- 'laws.FnSineBackMore': WHATEVER THE INPUT: true; the input reads as it did. -/
def fnSineBackMoreSpec : ChangeSpec := { name := "fnSineBackMore", fn := fun _ => fun
  | [d1, d2] => { results := [.lit (.bool true)], args := [d1, d2] }
  | _ => none }
def fnSineBackMoreRow : OpenClaim := { program := "ytfdkpcejjcifgaj", sum := "9e2ed951c02f36974f03073d5d825a04f34479d9f534cc5f18c3f68d7be6e8f3", func := "loop.example/alidade/laws.FnSineBackMore", spec := "fnSineBackMore", unfollowed := true, recurses := true, apart := false }
def FnSineBackMoreSaid : Prop := fnSineBackMoreRow.holds Try.pinned (OpenSpec.ofChange fnSineBackMoreSpec)

/-- ITS FALSE NEIGHBOUR: 'it returns false'. Refute it at one input. -/
def fnSineBackMoreWrong : ChangeSpec := { name := "fnSineBackMore", fn := fun _ => fun
  | [d1, d2] => { results := [.lit (.bool false)], args := [d1, d2] }
  | _ => none }
def FnSineBackMoreWrongFalsely : Prop := fnSineBackMoreRow.holds Try.pinned (OpenSpec.ofChange fnSineBackMoreWrong)

/-- 'laws.FnCosBack': WHATEVER THE INPUT: true; the input reads as it did. -/
def fnCosBackSpec : ChangeSpec := { name := "fnCosBack", fn := fun _ => fun
  | [d] => { results := [.lit (.bool true)], args := [d] }
  | _ => none }
def fnCosBackRow : OpenClaim := { program := "ytfdkpcejjcifgaj", sum := "9e2ed951c02f36974f03073d5d825a04f34479d9f534cc5f18c3f68d7be6e8f3", func := "loop.example/alidade/laws.FnCosBack", spec := "fnCosBack", unfollowed := true, recurses := true, apart := false }
def FnCosBackSaid : Prop := fnCosBackRow.holds Try.pinned (OpenSpec.ofChange fnCosBackSpec)

/-- ITS FALSE NEIGHBOUR: 'it returns false'. Refute it at one input. -/
def fnCosBackWrong : ChangeSpec := { name := "fnCosBack", fn := fun _ => fun
  | [d] => { results := [.lit (.bool false)], args := [d] }
  | _ => none }
def FnCosBackWrongFalsely : Prop := fnCosBackRow.holds Try.pinned (OpenSpec.ofChange fnCosBackWrong)

/- THE SECOND FORM. 'bulk': how many values and letters a reading holds, each counted each time it is reached (what is shared counts as often as it is met; a slice's spare places count too). A statement '..UptoSaid' is the law's where the arguments, and the package variables that the reading takes, are together of bulk at most 1048576: NARROWER than '..Said'. Prove '..Said' where nothing that the law and all that it calls make is longer than what came in: it says more and counts as full. Else prove '..UptoSaid'. A law counts once. -/
mutual
def uptoBulk {H : Type} : DataW H → Nat
  | .lit (.string bytes) => bytes.length + 1
  | .lit _ => 1
  | .nil => 1
  | .ptr d => uptoBulk d + 1
  | .slice elems spare => uptoBulkAll elems + uptoBulkAll spare + 1
  | .agg parts => uptoBulkAll parts + 1
  | .iface _ d => uptoBulk d + 1
  | .map entries => uptoBulkEntries entries + 1
  | .held _ => 1
def uptoBulkAll {H : Type} : List (DataW H) → Nat
  | [] => 0
  | d :: r => uptoBulk d + uptoBulkAll r
def uptoBulkEntries {H : Type} : List (Lit × DataW H) → Nat
  | [] => 0
  | x :: r => uptoBulkEntry x + uptoBulkEntries r
def uptoBulkEntry {H : Type} : Lit × DataW H → Nat
  | (.string bytes, d) => bytes.length + uptoBulk d + 1
  | (_, d) => uptoBulk d + 1
 end
def uptoSmall : (H : Type) → List (DataW H) → Bool := fun _ ds => decide (uptoBulkAll ds ≤ 1048576)
def OpenSpec.upto (s : _root_.Go.ChangeSpec) : _root_.Go.OpenSpec := { _root_.Go.OpenSpec.ofChange s with cond := some uptoSmall }

/-- 'laws.FnArcSum', WHERE WHAT IT READS IS OF BULK AT MOST 1048576: true; the input reads as it did. -/
def fnArcSumUptoRow : OpenClaim := { program := "ytfdkpcejjcifgaj", sum := "9e2ed951c02f36974f03073d5d825a04f34479d9f534cc5f18c3f68d7be6e8f3", func := "loop.example/alidade/laws.FnArcSum", spec := "fnArcSum", apart := false, narrowed := true }
def FnArcSumUptoSaid : Prop := fnArcSumUptoRow.holds Try.pinned (OpenSpec.upto fnArcSumSpec)

/-- 'laws.FnSineBack', WHERE WHAT IT READS IS OF BULK AT MOST 1048576: true; the input reads as it did. -/
def fnSineBackUptoRow : OpenClaim := { program := "ytfdkpcejjcifgaj", sum := "9e2ed951c02f36974f03073d5d825a04f34479d9f534cc5f18c3f68d7be6e8f3", func := "loop.example/alidade/laws.FnSineBack", spec := "fnSineBack", unfollowed := true, recurses := true, apart := false, narrowed := true }
def FnSineBackUptoSaid : Prop := fnSineBackUptoRow.holds Try.pinned (OpenSpec.upto fnSineBackSpec)

/-- 'laws.FnSineBackOf', WHERE WHAT IT READS IS OF BULK AT MOST 1048576: true; the input reads as it did. -/
def fnSineBackOfUptoRow : OpenClaim := { program := "ytfdkpcejjcifgaj", sum := "9e2ed951c02f36974f03073d5d825a04f34479d9f534cc5f18c3f68d7be6e8f3", func := "loop.example/alidade/laws.FnSineBackOf", spec := "fnSineBackOf", unfollowed := true, recurses := true, apart := false, narrowed := true }
def FnSineBackOfUptoSaid : Prop := fnSineBackOfUptoRow.holds Try.pinned (OpenSpec.upto fnSineBackOfSpec)

/-- 'laws.FnSineBackNeg', WHERE WHAT IT READS IS OF BULK AT MOST 1048576: true; the input reads as it did. -/
def fnSineBackNegUptoRow : OpenClaim := { program := "ytfdkpcejjcifgaj", sum := "9e2ed951c02f36974f03073d5d825a04f34479d9f534cc5f18c3f68d7be6e8f3", func := "loop.example/alidade/laws.FnSineBackNeg", spec := "fnSineBackNeg", unfollowed := true, recurses := true, apart := false, narrowed := true }
def FnSineBackNegUptoSaid : Prop := fnSineBackNegUptoRow.holds Try.pinned (OpenSpec.upto fnSineBackNegSpec)

/-- 'laws.FnSineBackMore', WHERE WHAT IT READS IS OF BULK AT MOST 1048576: true; the input reads as it did. -/
def fnSineBackMoreUptoRow : OpenClaim := { program := "ytfdkpcejjcifgaj", sum := "9e2ed951c02f36974f03073d5d825a04f34479d9f534cc5f18c3f68d7be6e8f3", func := "loop.example/alidade/laws.FnSineBackMore", spec := "fnSineBackMore", unfollowed := true, recurses := true, apart := false, narrowed := true }
def FnSineBackMoreUptoSaid : Prop := fnSineBackMoreUptoRow.holds Try.pinned (OpenSpec.upto fnSineBackMoreSpec)

/-- 'laws.FnCosBack', WHERE WHAT IT READS IS OF BULK AT MOST 1048576: true; the input reads as it did. -/
def fnCosBackUptoRow : OpenClaim := { program := "ytfdkpcejjcifgaj", sum := "9e2ed951c02f36974f03073d5d825a04f34479d9f534cc5f18c3f68d7be6e8f3", func := "loop.example/alidade/laws.FnCosBack", spec := "fnCosBack", unfollowed := true, recurses := true, apart := false, narrowed := true }
def FnCosBackUptoSaid : Prop := fnCosBackUptoRow.holds Try.pinned (OpenSpec.upto fnCosBackSpec)

end Rows
end Go.Proofs.Ytfdkpcejjcifgaj
