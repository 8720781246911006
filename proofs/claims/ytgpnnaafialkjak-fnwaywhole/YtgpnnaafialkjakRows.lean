/-
  No cell of these rows narrows 'for every input' (looked for: loops, veiled, ifaces, maps, wideKeys, modest, calm, conditions, laid).
  DERIVED. THE GIVEN ROWS OF THIS SEAT. 6 by the template 'for every input the law returns true; each argument reads behind the call as it read before'; 0 by the template 'total and deterministic' (their statements: YtgpnnaafialkjakTotals.lean).
  GIVEN WITH THE SEED: the statements are not yours to turn. If you find one false, say at which input.
  Laid BY PROGRAM, IN A SANDBOX (cutbox-rows.mjs): the forced cells as the released guide's own fill.sh prints them over the translation 730c041c6c2a0462… (all of the seat's roots in one cut). By AI agents, Wed Nov 11 2026. No macro, syntax, notation, axiom, sorry.
-/
import Derived.Test.YtgpnnaafialkjakChecked
import GoSem.Claim
import GoSem.ClaimJoined
import GoSem.ClaimMapViews
import Derived.JoinedTies
import Derived.KernelRfl
namespace Go.Proofs.Ytgpnnaafialkjak
/- THE CELL 'sum', in the pinned program and in every row, IS THE sha256 OF THE DUMP (.gsa) THAT YtgpnnaafialkjakProg.lean LOADS. Nothing in Lean hashes anything: it is a label: what it is worth is what the hold of that sum in a sandbox is worth. -/
noncomputable def Try.pinned : Pinned := { name := "ytgpnnaafialkjak", sum := "730c041c6c2a0462d28e8146a0ed00fa3c3d19b7b765e717256adfc6804fdf21", checked := Try.checked }
namespace Rows
def none {H : Type} : Left H := { results := [], args := [] }

/-- 'laws.FnWayOf': WHATEVER THE INPUT: true; the input reads as it did. -/
def fnWayOfSpec : ChangeSpec := { name := "fnWayOf", fn := fun _ => fun
  | [d] => { results := [.lit (.bool true)], args := [d] }
  | _ => none }
def fnWayOfRow : OpenClaim := { program := "ytgpnnaafialkjak", sum := "730c041c6c2a0462d28e8146a0ed00fa3c3d19b7b765e717256adfc6804fdf21", func := "loop.example/alidade/laws.FnWayOf", spec := "fnWayOf", unfollowed := true, recurses := true, apart := false }
def FnWayOfSaid : Prop := fnWayOfRow.holds Try.pinned (OpenSpec.ofChange fnWayOfSpec)

/-- ITS FALSE NEIGHBOUR: 'it returns false'. Refute it at one input. -/
def fnWayOfWrong : ChangeSpec := { name := "fnWayOf", fn := fun _ => fun
  | [d] => { results := [.lit (.bool false)], args := [d] }
  | _ => none }
def FnWayOfWrongFalsely : Prop := fnWayOfRow.holds Try.pinned (OpenSpec.ofChange fnWayOfWrong)

/-- 'laws.FnWayTurn': WHATEVER THE INPUT: true; the input reads as it did. -/
def fnWayTurnSpec : ChangeSpec := { name := "fnWayTurn", fn := fun _ => fun
  | [d] => { results := [.lit (.bool true)], args := [d] }
  | _ => none }
def fnWayTurnRow : OpenClaim := { program := "ytgpnnaafialkjak", sum := "730c041c6c2a0462d28e8146a0ed00fa3c3d19b7b765e717256adfc6804fdf21", func := "loop.example/alidade/laws.FnWayTurn", spec := "fnWayTurn", unfollowed := true, recurses := true, apart := false }
def FnWayTurnSaid : Prop := fnWayTurnRow.holds Try.pinned (OpenSpec.ofChange fnWayTurnSpec)

/-- ITS FALSE NEIGHBOUR: 'it returns false'. Refute it at one input. -/
def fnWayTurnWrong : ChangeSpec := { name := "fnWayTurn", fn := fun _ => fun
  | [d] => { results := [.lit (.bool false)], args := [d] }
  | _ => none }
def FnWayTurnWrongFalsely : Prop := fnWayTurnRow.holds Try.pinned (OpenSpec.ofChange fnWayTurnWrong)

/-- 'laws.FnWaySwap': WHATEVER THE INPUT: true; the input reads as it did. -/
def fnWaySwapSpec : ChangeSpec := { name := "fnWaySwap", fn := fun _ => fun
  | [d] => { results := [.lit (.bool true)], args := [d] }
  | _ => none }
def fnWaySwapRow : OpenClaim := { program := "ytgpnnaafialkjak", sum := "730c041c6c2a0462d28e8146a0ed00fa3c3d19b7b765e717256adfc6804fdf21", func := "loop.example/alidade/laws.FnWaySwap", spec := "fnWaySwap", unfollowed := true, recurses := true, apart := false }
def FnWaySwapSaid : Prop := fnWaySwapRow.holds Try.pinned (OpenSpec.ofChange fnWaySwapSpec)

/-- ITS FALSE NEIGHBOUR: 'it returns false'. Refute it at one input. -/
def fnWaySwapWrong : ChangeSpec := { name := "fnWaySwap", fn := fun _ => fun
  | [d] => { results := [.lit (.bool false)], args := [d] }
  | _ => none }
def FnWaySwapWrongFalsely : Prop := fnWaySwapRow.holds Try.pinned (OpenSpec.ofChange fnWaySwapWrong)

/-- 'laws.FnWayLong': WHATEVER THE INPUT: true; the input reads as it did. -/
def fnWayLongSpec : ChangeSpec := { name := "fnWayLong", fn := fun _ => fun
  | [d] => { results := [.lit (.bool true)], args := [d] }
  | _ => none }
def fnWayLongRow : OpenClaim := { program := "ytgpnnaafialkjak", sum := "730c041c6c2a0462d28e8146a0ed00fa3c3d19b7b765e717256adfc6804fdf21", func := "loop.example/alidade/laws.FnWayLong", spec := "fnWayLong", unfollowed := true, recurses := true, apart := false }
def FnWayLongSaid : Prop := fnWayLongRow.holds Try.pinned (OpenSpec.ofChange fnWayLongSpec)

/-- ITS FALSE NEIGHBOUR: 'it returns false'. Refute it at one input. -/
def fnWayLongWrong : ChangeSpec := { name := "fnWayLong", fn := fun _ => fun
  | [d] => { results := [.lit (.bool false)], args := [d] }
  | _ => none }
def FnWayLongWrongFalsely : Prop := fnWayLongRow.holds Try.pinned (OpenSpec.ofChange fnWayLongWrong)

/-- 'laws.FnWayWhole': WHATEVER THE INPUT: true; the input reads as it did. -/
def fnWayWholeSpec : ChangeSpec := { name := "fnWayWhole", fn := fun _ => fun
  | [d1, d2] => { results := [.lit (.bool true)], args := [d1, d2] }
  | _ => none }
def fnWayWholeRow : OpenClaim := { program := "ytgpnnaafialkjak", sum := "730c041c6c2a0462d28e8146a0ed00fa3c3d19b7b765e717256adfc6804fdf21", func := "loop.example/alidade/laws.FnWayWhole", spec := "fnWayWhole", unfollowed := true, recurses := true, apart := false }
def FnWayWholeSaid : Prop := fnWayWholeRow.holds Try.pinned (OpenSpec.ofChange fnWayWholeSpec)

/-- ITS FALSE NEIGHBOUR: 'it returns false'. Refute it at one input. -/
def fnWayWholeWrong : ChangeSpec := { name := "fnWayWhole", fn := fun _ => fun
  | [d1, d2] => { results := [.lit (.bool false)], args := [d1, d2] }
  | _ => none }
def FnWayWholeWrongFalsely : Prop := fnWayWholeRow.holds Try.pinned (OpenSpec.ofChange fnWayWholeWrong)

/-- 'laws.FnFanHas': WHATEVER THE INPUT: true; the input reads as it did. -/
def fnFanHasSpec : ChangeSpec := { name := "fnFanHas", fn := fun _ => fun
  | [d] => { results := [.lit (.bool true)], args := [d] }
  | _ => none }
def fnFanHasRow : OpenClaim := { program := "ytgpnnaafialkjak", sum := "730c041c6c2a0462d28e8146a0ed00fa3c3d19b7b765e717256adfc6804fdf21", func := "loop.example/alidade/laws.FnFanHas", spec := "fnFanHas", apart := false }
def FnFanHasSaid : Prop := fnFanHasRow.holds Try.pinned (OpenSpec.ofChange fnFanHasSpec)

/-- ITS FALSE NEIGHBOUR: 'it returns false'. Refute it at one input. -/
def fnFanHasWrong : ChangeSpec := { name := "fnFanHas", fn := fun _ => fun
  | [d] => { results := [.lit (.bool false)], args := [d] }
  | _ => none }
def FnFanHasWrongFalsely : Prop := fnFanHasRow.holds Try.pinned (OpenSpec.ofChange fnFanHasWrong)

/- THE SECOND FORM. 'bulk': how many values and letters a reading holds, each counted each time it is reached (what is shared counts as often as it is met; a slice's spare places count too). A statement '..UptoSaid' is the law's where the arguments, and the package variables that the reading takes, are together of bulk at most 1048576: NARROWER than '..Said'. Prove '..Said' where nothing that the law and all that it calls make is longer than what came in: it says more and counts as full. Else prove '..UptoSaid'. A law counts once. -/
mutual
def uptoBulk {H : Type} : DataW H → Nat
  | .lit (.string bytes) => bytes.length + 1
  | .lit _ => 1
  | .nil => 1
  | .ptr d => uptoBulk d + 1
  | .slice elems spare => uptoBulkAll elems + uptoBulkAll spare + 1
  | .agg parts => uptoBulkAll parts + 1
  | .iface _ d => uptoBulk d + 1
  | .map entries => uptoBulkEntries entries + 1
  | .held _ => 1
def uptoBulkAll {H : Type} : List (DataW H) → Nat
  | [] => 0
  | d :: r => uptoBulk d + uptoBulkAll r
def uptoBulkEntries {H : Type} : List (Lit × DataW H) → Nat
  | [] => 0
  | x :: r => uptoBulkEntry x + uptoBulkEntries r
def uptoBulkEntry {H : Type} : Lit × DataW H → Nat
  | (.string bytes, d) => bytes.length + uptoBulk d + 1
  | (_, d) => uptoBulk d + 1
 end
def uptoSmall : (H : Type) → List (DataW H) → Bool := fun _ ds => decide (uptoBulkAll ds ≤ 1048576)
def OpenSpec.upto (s : _root_.Go.ChangeSpec) : _root_.Go.OpenSpec := { _root_.Go.OpenSpec.ofChange s with cond := some uptoSmall }

/-- 'laws.FnWayOf', WHERE WHAT IT READS IS OF BULK AT MOST 1048576: true; the input reads as it did. -/
def fnWayOfUptoRow : OpenClaim := { program := "ytgpnnaafialkjak", sum := "730c041c6c2a0462d28e8146a0ed00fa3c3d19b7b765e717256adfc6804fdf21", func := "loop.example/alidade/laws.FnWayOf", spec := "fnWayOf", unfollowed := true, recurses := true, apart := false, narrowed := true }
def FnWayOfUptoSaid : Prop := fnWayOfUptoRow.holds Try.pinned (OpenSpec.upto fnWayOfSpec)

/-- 'laws.FnWayTurn', WHERE WHAT IT READS IS OF BULK AT MOST 1048576: true; the input reads as it did. -/
def fnWayTurnUptoRow : OpenClaim := { program := "ytgpnnaafialkjak", sum := "730c041c6c2a0462d28e8146a0ed00fa3c3d19b7b765e717256adfc6804fdf21", func := "loop.example/alidade/laws.FnWayTurn", spec := "fnWayTurn", unfollowed := true, recurses := true, apart := false, narrowed := true }
def FnWayTurnUptoSaid : Prop := fnWayTurnUptoRow.holds Try.pinned (OpenSpec.upto fnWayTurnSpec)

/-- 'laws.FnWaySwap', WHERE WHAT IT READS IS OF BULK AT MOST 1048576: true; the input reads as it did. -/
def fnWaySwapUptoRow : OpenClaim := { program := "ytgpnnaafialkjak", sum := "730c041c6c2a0462d28e8146a0ed00fa3c3d19b7b765e717256adfc6804fdf21", func := "loop.example/alidade/laws.FnWaySwap", spec := "fnWaySwap", unfollowed := true, recurses := true, apart := false, narrowed := true }
def FnWaySwapUptoSaid : Prop := fnWaySwapUptoRow.holds Try.pinned (OpenSpec.upto fnWaySwapSpec)

/-- 'laws.FnWayLong', WHERE WHAT IT READS IS OF BULK AT MOST 1048576: true; the input reads as it did. -/
def fnWayLongUptoRow : OpenClaim := { program := "ytgpnnaafialkjak", sum := "730c041c6c2a0462d28e8146a0ed00fa3c3d19b7b765e717256adfc6804fdf21", func := "loop.example/alidade/laws.FnWayLong", spec := "fnWayLong", unfollowed := true, recurses := true, apart := false, narrowed := true }
def FnWayLongUptoSaid : Prop := fnWayLongUptoRow.holds Try.pinned (OpenSpec.upto fnWayLongSpec)

/-- 'laws.FnWayWhole', WHERE WHAT IT READS IS OF BULK AT MOST 1048576: true; the input reads as it did. -/
def fnWayWholeUptoRow : OpenClaim := { program := "ytgpnnaafialkjak", sum := "730c041c6c2a0462d28e8146a0ed00fa3c3d19b7b765e717256adfc6804fdf21", func := "loop.example/alidade/laws.FnWayWhole", spec := "fnWayWhole", unfollowed := true, recurses := true, apart := false, narrowed := true }
def FnWayWholeUptoSaid : Prop := fnWayWholeUptoRow.holds Try.pinned (OpenSpec.upto fnWayWholeSpec)

/-- 'laws.FnFanHas', WHERE WHAT IT READS IS OF BULK AT MOST 1048576: true; the input reads as it did. -/
def fnFanHasUptoRow : OpenClaim := { program := "ytgpnnaafialkjak", sum := "730c041c6c2a0462d28e8146a0ed00fa3c3d19b7b765e717256adfc6804fdf21", func := "loop.example/alidade/laws.FnFanHas", spec := "fnFanHas", apart := false, narrowed := true }
def FnFanHasUptoSaid : Prop := fnFanHasUptoRow.holds Try.pinned (OpenSpec.upto fnFanHasSpec)

end Rows
end Go.Proofs.Ytgpnnaafialkjak
