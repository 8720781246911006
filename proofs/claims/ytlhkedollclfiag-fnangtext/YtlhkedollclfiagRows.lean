/-
  No cell of these rows narrows 'for every input' (looked for: loops, veiled, ifaces, maps, wideKeys, modest, calm, conditions, laid).
  DERIVED. THE GIVEN ROWS OF THIS SEAT. 4 by the template 'for every input the law returns true; each argument reads behind the call as it read before'; 0 by the template 'total and deterministic' (their statements: YtlhkedollclfiagTotals.lean).
  GIVEN WITH THE SEED: the statements are not yours to turn. If you find one false, say at which input.
  Laid BY PROGRAM, IN A SANDBOX (cutbox-rows.mjs): the forced cells as the released guide's own fill.sh prints them over the translation ad785e8775a7cfe0… (all of the seat's roots in one cut). By AI agents, Wed Nov 11 2026. No macro, syntax, notation, axiom, sorry.
-/
import Derived.Test.YtlhkedollclfiagChecked
import GoSem.Claim
import GoSem.ClaimJoined
import GoSem.ClaimMapViews
import Derived.JoinedTies
import Derived.KernelRfl
namespace Go.Proofs.Ytlhkedollclfiag
/- THE CELL 'sum', in the pinned program and in every row, IS THE sha256 OF THE DUMP (.gsa) THAT YtlhkedollclfiagProg.lean LOADS. Nothing in Lean hashes anything: it is a label: what it is worth is what the hold of that sum in a sandbox is worth. -/
noncomputable def Try.pinned : Pinned := { name := "ytlhkedollclfiag", sum := "ad785e8775a7cfe0b828b03bf9a3dedd57aa17738bff0ede0dea9077bc69b07d", checked := Try.checked }
namespace Rows
def none {H : Type} : Left H := { results := [], args := [] }

/-- 'laws.FnAngStrict': WHATEVER THE INPUT: true; the input reads as it did. -/
def fnAngStrictSpec : ChangeSpec := { name := "fnAngStrict", fn := fun _ => fun
  | [d] => { results := [.lit (.bool true)], args := [d] }
  | _ => none }
def fnAngStrictRow : OpenClaim := { program := "ytlhkedollclfiag", sum := "ad785e8775a7cfe0b828b03bf9a3dedd57aa17738bff0ede0dea9077bc69b07d", func := "loop.example/alidade/laws.FnAngStrict", spec := "fnAngStrict", unfollowed := true, recurses := true, apart := false }
def FnAngStrictSaid : Prop := fnAngStrictRow.holds Try.pinned (OpenSpec.ofChange fnAngStrictSpec)

/-- ITS FALSE NEIGHBOUR: 'it returns false'. Refute it at one input. -/
def fnAngStrictWrong : ChangeSpec := { name := "fnAngStrict", fn := fun _ => fun
  | [d] => { results := [.lit (.bool false)], args := [d] }
  | _ => none }
def FnAngStrictWrongFalsely : Prop := fnAngStrictRow.holds Try.pinned (OpenSpec.ofChange fnAngStrictWrong)

/-- 'laws.FnAngText': WHATEVER THE INPUT: true; the input reads as it did. -/
def fnAngTextSpec : ChangeSpec := { name := "fnAngText", fn := fun _ => fun
  | [d1, d2] => { results := [.lit (.bool true)], args := [d1, d2] }
  | _ => none }
def fnAngTextRow : OpenClaim := { program := "ytlhkedollclfiag", sum := "ad785e8775a7cfe0b828b03bf9a3dedd57aa17738bff0ede0dea9077bc69b07d", func := "loop.example/alidade/laws.FnAngText", spec := "fnAngText", unfollowed := true, recurses := true, apart := false }
def FnAngTextSaid : Prop := fnAngTextRow.holds Try.pinned (OpenSpec.ofChange fnAngTextSpec)

/-- ITS FALSE NEIGHBOUR: 'it returns false'. Refute it at one input. -/
def fnAngTextWrong : ChangeSpec := { name := "fnAngText", fn := fun _ => fun
  | [d1, d2] => { results := [.lit (.bool false)], args := [d1, d2] }
  | _ => none }
def FnAngTextWrongFalsely : Prop := fnAngTextRow.holds Try.pinned (OpenSpec.ofChange fnAngTextWrong)

/-- 'laws.FnAngNeg': WHATEVER THE INPUT: true; the input reads as it did. -/
def fnAngNegSpec : ChangeSpec := { name := "fnAngNeg", fn := fun _ => fun
  | [d] => { results := [.lit (.bool true)], args := [d] }
  | _ => none }
def fnAngNegRow : OpenClaim := { program := "ytlhkedollclfiag", sum := "ad785e8775a7cfe0b828b03bf9a3dedd57aa17738bff0ede0dea9077bc69b07d", func := "loop.example/alidade/laws.FnAngNeg", spec := "fnAngNeg", unfollowed := true, recurses := true, apart := false }
def FnAngNegSaid : Prop := fnAngNegRow.holds Try.pinned (OpenSpec.ofChange fnAngNegSpec)

/-- ITS FALSE NEIGHBOUR: 'it returns false'. Refute it at one input. -/
def fnAngNegWrong : ChangeSpec := { name := "fnAngNeg", fn := fun _ => fun
  | [d] => { results := [.lit (.bool false)], args := [d] }
  | _ => none }
def FnAngNegWrongFalsely : Prop := fnAngNegRow.holds Try.pinned (OpenSpec.ofChange fnAngNegWrong)

/-- 'laws.FnAngThree': WHATEVER THE INPUT: true; the input reads as it did. -/
def fnAngThreeSpec : ChangeSpec := { name := "fnAngThree", fn := fun _ => fun
  | [d1, d2] => { results := [.lit (.bool true)], args := [d1, d2] }
  | _ => none }
def fnAngThreeRow : OpenClaim := { program := "ytlhkedollclfiag", sum := "ad785e8775a7cfe0b828b03bf9a3dedd57aa17738bff0ede0dea9077bc69b07d", func := "loop.example/alidade/laws.FnAngThree", spec := "fnAngThree", apart := false }
def FnAngThreeSaid : Prop := fnAngThreeRow.holds Try.pinned (OpenSpec.ofChange fnAngThreeSpec)

/-- ITS FALSE NEIGHBOUR: 'it returns false'. Refute it at one input. -/
def fnAngThreeWrong : ChangeSpec := { name := "fnAngThree", fn := fun _ => fun
  | [d1, d2] => { results := [.lit (.bool false)], args := [d1, d2] }
  | _ => none }
def FnAngThreeWrongFalsely : Prop := fnAngThreeRow.holds Try.pinned (OpenSpec.ofChange fnAngThreeWrong)

/- THE SECOND FORM. 'bulk': how many values and letters a reading holds, each counted each time it is reached (what is shared counts as often as it is met; a slice's spare places count too). A statement '..UptoSaid' is the law's where the arguments, and the package variables that the reading takes, are together of bulk at most 1048576: NARROWER than '..Said'. Prove '..Said' where nothing that the law and all that it calls make is longer than what came in: it says more and counts as full. Else prove '..UptoSaid'. A law counts once. -/
mutual
def uptoBulk {H : Type} : DataW H → Nat
  | .lit (.string bytes) => bytes.length + 1
  | .lit _ => 1
  | .nil => 1
  | .ptr d => uptoBulk d + 1
  | .slice elems spare => uptoBulkAll elems + uptoBulkAll spare + 1
  | .agg parts => uptoBulkAll parts + 1
  | .iface _ d => uptoBulk d + 1
  | .map entries => uptoBulkEntries entries + 1
  | .held _ => 1
def uptoBulkAll {H : Type} : List (DataW H) → Nat
  | [] => 0
  | d :: r => uptoBulk d + uptoBulkAll r
def uptoBulkEntries {H : Type} : List (Lit × DataW H) → Nat
  | [] => 0
  | x :: r => uptoBulkEntry x + uptoBulkEntries r
def uptoBulkEntry {H : Type} : Lit × DataW H → Nat
  | (.string bytes, d) => bytes.length + uptoBulk d + 1
  | (_, d) => uptoBulk d + 1
 end
def uptoSmall : (H : Type) → List (DataW H) → Bool := fun _ ds => decide (uptoBulkAll ds ≤ 1048576)
def OpenSpec.upto (s : _root_.Go.ChangeSpec) : _root_.Go.OpenSpec := { _root_.Go.OpenSpec.ofChange s with cond := some uptoSmall }

/-- 'laws.FnAngStrict', WHERE WHAT IT READS IS OF BULK AT MOST 1048576: true; the input reads as it did. -/
def fnAngStrictUptoRow : OpenClaim := { program := "ytlhkedollclfiag", sum := "ad785e8775a7cfe0b828b03bf9a3dedd57aa17738bff0ede0dea9077bc69b07d", func := "loop.example/alidade/laws.FnAngStrict", spec := "fnAngStrict", unfollowed := true, recurses := true, apart := false, narrowed := true }
def FnAngStrictUptoSaid : Prop := fnAngStrictUptoRow.holds Try.pinned (OpenSpec.upto fnAngStrictSpec)

/-- 'laws.FnAngText', WHERE WHAT IT READS IS OF BULK AT MOST 1048576: true; the input reads as it did. -/
def fnAngTextUptoRow : OpenClaim := { program := "ytlhkedollclfiag", sum := "ad785e8775a7cfe0b828b03bf9a3dedd57aa17738bff0ede0dea9077bc69b07d", func := "loop.example/alidade/laws.FnAngText", spec := "fnAngText", unfollowed := true, recurses := true, apart := false, narrowed := true }
def FnAngTextUptoSaid : Prop := fnAngTextUptoRow.holds Try.pinned (OpenSpec.upto fnAngTextSpec)

/-- 'laws.FnAngNeg', WHERE WHAT IT READS IS OF BULK AT MOST 1048576: true; the input reads as it did. -/
def fnAngNegUptoRow : OpenClaim := { program := "ytlhkedollclfiag", sum := "ad785e8775a7cfe0b828b03bf9a3dedd57aa17738bff0ede0dea9077bc69b07d", func := "loop.example/alidade/laws.FnAngNeg", spec := "fnAngNeg", unfollowed := true, recurses := true, apart := false, narrowed := true }
def FnAngNegUptoSaid : Prop := fnAngNegUptoRow.holds Try.pinned (OpenSpec.upto fnAngNegSpec)

/-- 'laws.FnAngThree', WHERE WHAT IT READS IS OF BULK AT MOST 1048576: true; the input reads as it did. -/
def fnAngThreeUptoRow : OpenClaim := { program := "ytlhkedollclfiag", sum := "ad785e8775a7cfe0b828b03bf9a3dedd57aa17738bff0ede0dea9077bc69b07d", func := "loop.example/alidade/laws.FnAngThree", spec := "fnAngThree", apart := false, narrowed := true }
def FnAngThreeUptoSaid : Prop := fnAngThreeUptoRow.holds Try.pinned (OpenSpec.upto fnAngThreeSpec)

end Rows
end Go.Proofs.Ytlhkedollclfiag
