/-
  No cell of these rows narrows 'for every input' (looked for: loops, veiled, ifaces, maps, wideKeys, modest, calm, conditions, laid).
  DERIVED. THE GIVEN ROWS OF THIS SEAT. 6 by the template 'for every input the law returns true; each argument reads behind the call as it read before'; 0 by the template 'total and deterministic' (their statements: YtelkblmkpinpoaaTotals.lean).
  GIVEN WITH THE SEED: the statements are not yours to turn. If you find one false, say at which input.
  Laid BY PROGRAM, IN A SANDBOX (cutbox-rows.mjs): the forced cells as the released guide's own fill.sh prints them over the translation 7f353f31b1b2c350… (all of the seat's roots in one cut). By AI agents, Wed Nov 11 2026. No macro, syntax, notation, axiom, sorry.
-/
import Derived.Test.YtelkblmkpinpoaaChecked
import GoSem.Claim
import GoSem.ClaimJoined
import GoSem.ClaimMapViews
import Derived.JoinedTies
import Derived.KernelRfl
namespace Go.Proofs.Ytelkblmkpinpoaa
/- THE CELL 'sum', in the pinned program and in every row, IS THE sha256 OF THE DUMP (.gsa) THAT YtelkblmkpinpoaaProg.lean LOADS. Nothing in Lean hashes anything: it is a label: what it is worth is what the hold of that sum in a sandbox is worth. -/
noncomputable def Try.pinned : Pinned := { name := "ytelkblmkpinpoaa", sum := "7f353f31b1b2c350cbd6072eded9978ef4a876224ff247d1a7bf6923e2123604", checked := Try.checked }
namespace Rows
def none {H : Type} : Left H := { results := [], args := [] }

/-- 'laws.FnNumDown': WHATEVER THE INPUT: true; the input reads as it did. -/
def fnNumDownSpec : ChangeSpec := { name := "fnNumDown", fn := fun _ => fun
  | [d] => { results := [.lit (.bool true)], args := [d] }
  | _ => none }
def fnNumDownRow : OpenClaim := { program := "ytelkblmkpinpoaa", sum := "7f353f31b1b2c350cbd6072eded9978ef4a876224ff247d1a7bf6923e2123604", func := "loop.example/alidade/laws.FnNumDown", spec := "fnNumDown", unfollowed := true, recurses := true, apart := false }
def FnNumDownSaid : Prop := fnNumDownRow.holds Try.pinned (OpenSpec.ofChange fnNumDownSpec)

/-- ITS FALSE NEIGHBOUR: 'it returns false'. Refute it at one input. -/
def fnNumDownWrong : ChangeSpec := { name := "fnNumDown", fn := fun _ => fun
  | [d] => { results := [.lit (.bool false)], args := [d] }
  | _ => none }
def FnNumDownWrongFalsely : Prop := fnNumDownRow.holds Try.pinned (OpenSpec.ofChange fnNumDownWrong)

/-- 'laws.FnNumUp': WHATEVER THE INPUT: true; the input reads as it did. -/
def fnNumUpSpec : ChangeSpec := { name := "fnNumUp", fn := fun _ => fun
  | [d] => { results := [.lit (.bool true)], args := [d] }
  | _ => none }
def fnNumUpRow : OpenClaim := { program := "ytelkblmkpinpoaa", sum := "7f353f31b1b2c350cbd6072eded9978ef4a876224ff247d1a7bf6923e2123604", func := "loop.example/alidade/laws.FnNumUp", spec := "fnNumUp", unfollowed := true, recurses := true, apart := false }
def FnNumUpSaid : Prop := fnNumUpRow.holds Try.pinned (OpenSpec.ofChange fnNumUpSpec)

/-- ITS FALSE NEIGHBOUR: 'it returns false'. Refute it at one input. -/
def fnNumUpWrong : ChangeSpec := { name := "fnNumUp", fn := fun _ => fun
  | [d] => { results := [.lit (.bool false)], args := [d] }
  | _ => none }
def FnNumUpWrongFalsely : Prop := fnNumUpRow.holds Try.pinned (OpenSpec.ofChange fnNumUpWrong)

/-- 'laws.FnNumRound': WHATEVER THE INPUT: true; the input reads as it did. -/
def fnNumRoundSpec : ChangeSpec := { name := "fnNumRound", fn := fun _ => fun
  | [d] => { results := [.lit (.bool true)], args := [d] }
  | _ => none }
def fnNumRoundRow : OpenClaim := { program := "ytelkblmkpinpoaa", sum := "7f353f31b1b2c350cbd6072eded9978ef4a876224ff247d1a7bf6923e2123604", func := "loop.example/alidade/laws.FnNumRound", spec := "fnNumRound", unfollowed := true, recurses := true, apart := false }
def FnNumRoundSaid : Prop := fnNumRoundRow.holds Try.pinned (OpenSpec.ofChange fnNumRoundSpec)

/-- ITS FALSE NEIGHBOUR: 'it returns false'. Refute it at one input. -/
def fnNumRoundWrong : ChangeSpec := { name := "fnNumRound", fn := fun _ => fun
  | [d] => { results := [.lit (.bool false)], args := [d] }
  | _ => none }
def FnNumRoundWrongFalsely : Prop := fnNumRoundRow.holds Try.pinned (OpenSpec.ofChange fnNumRoundWrong)

/-- 'laws.FnNumEven': WHATEVER THE INPUT: true; the input reads as it did. -/
def fnNumEvenSpec : ChangeSpec := { name := "fnNumEven", fn := fun _ => fun
  | [d] => { results := [.lit (.bool true)], args := [d] }
  | _ => none }
def fnNumEvenRow : OpenClaim := { program := "ytelkblmkpinpoaa", sum := "7f353f31b1b2c350cbd6072eded9978ef4a876224ff247d1a7bf6923e2123604", func := "loop.example/alidade/laws.FnNumEven", spec := "fnNumEven", unfollowed := true, recurses := true, apart := false }
def FnNumEvenSaid : Prop := fnNumEvenRow.holds Try.pinned (OpenSpec.ofChange fnNumEvenSpec)

/-- ITS FALSE NEIGHBOUR: 'it returns false'. Refute it at one input. -/
def fnNumEvenWrong : ChangeSpec := { name := "fnNumEven", fn := fun _ => fun
  | [d] => { results := [.lit (.bool false)], args := [d] }
  | _ => none }
def FnNumEvenWrongFalsely : Prop := fnNumEvenRow.holds Try.pinned (OpenSpec.ofChange fnNumEvenWrong)

/-- 'laws.FnNumWays': WHATEVER THE INPUT: true; the input reads as it did. -/
def fnNumWaysSpec : ChangeSpec := { name := "fnNumWays", fn := fun _ => fun
  | [d] => { results := [.lit (.bool true)], args := [d] }
  | _ => none }
def fnNumWaysRow : OpenClaim := { program := "ytelkblmkpinpoaa", sum := "7f353f31b1b2c350cbd6072eded9978ef4a876224ff247d1a7bf6923e2123604", func := "loop.example/alidade/laws.FnNumWays", spec := "fnNumWays", unfollowed := true, recurses := true, apart := false }
def FnNumWaysSaid : Prop := fnNumWaysRow.holds Try.pinned (OpenSpec.ofChange fnNumWaysSpec)

/-- ITS FALSE NEIGHBOUR: 'it returns false'. Refute it at one input. -/
def fnNumWaysWrong : ChangeSpec := { name := "fnNumWays", fn := fun _ => fun
  | [d] => { results := [.lit (.bool false)], args := [d] }
  | _ => none }
def FnNumWaysWrongFalsely : Prop := fnNumWaysRow.holds Try.pinned (OpenSpec.ofChange fnNumWaysWrong)

/-- 'laws.FnNumTurn': WHATEVER THE INPUT: true; the input reads as it did. -/
def fnNumTurnSpec : ChangeSpec := { name := "fnNumTurn", fn := fun _ => fun
  | [d] => { results := [.lit (.bool true)], args := [d] }
  | _ => none }
def fnNumTurnRow : OpenClaim := { program := "ytelkblmkpinpoaa", sum := "7f353f31b1b2c350cbd6072eded9978ef4a876224ff247d1a7bf6923e2123604", func := "loop.example/alidade/laws.FnNumTurn", spec := "fnNumTurn", unfollowed := true, recurses := true, apart := false }
def FnNumTurnSaid : Prop := fnNumTurnRow.holds Try.pinned (OpenSpec.ofChange fnNumTurnSpec)

/-- ITS FALSE NEIGHBOUR: 'it returns false'. Refute it at one input. -/
def fnNumTurnWrong : ChangeSpec := { name := "fnNumTurn", fn := fun _ => fun
  | [d] => { results := [.lit (.bool false)], args := [d] }
  | _ => none }
def FnNumTurnWrongFalsely : Prop := fnNumTurnRow.holds Try.pinned (OpenSpec.ofChange fnNumTurnWrong)

/- THE SECOND FORM. 'bulk': how many values and letters a reading holds, each counted each time it is reached (what is shared counts as often as it is met; a slice's spare places count too). A statement '..UptoSaid' is the law's where the arguments, and the package variables that the reading takes, are together of bulk at most 1048576: NARROWER than '..Said'. Prove '..Said' where nothing that the law and all that it calls make is longer than what came in: it says more and counts as full. Else prove '..UptoSaid'. A law counts once. -/
mutual
def uptoBulk {H : Type} : DataW H → Nat
  | .lit (.string bytes) => bytes.length + 1
  | .lit _ => 1
  | .nil => 1
  | .ptr d => uptoBulk d + 1
  | .slice elems spare => uptoBulkAll elems + uptoBulkAll spare + 1
  | .agg parts => uptoBulkAll parts + 1
  | .iface _ d => uptoBulk d + 1
  | .map entries => uptoBulkEntries entries + 1
  | .held _ => 1
def uptoBulkAll {H : Type} : List (DataW H) → Nat
  | [] => 0
  | d :: r => uptoBulk d + uptoBulkAll r
def uptoBulkEntries {H : Type} : List (Lit × DataW H) → Nat
  | [] => 0
  | x :: r => uptoBulkEntry x + uptoBulkEntries r
def uptoBulkEntry {H : Type} : Lit × DataW H → Nat
  | (.string bytes, d) => bytes.length + uptoBulk d + 1
  | (_, d) => uptoBulk d + 1
 end
def uptoSmall : (H : Type) → List (DataW H) → Bool := fun _ ds => decide (uptoBulkAll ds ≤ 1048576)
def OpenSpec.upto (s : _root_.Go.ChangeSpec) : _root_.Go.OpenSpec := { _root_.Go.OpenSpec.ofChange s with cond := some uptoSmall }

/-- 'laws.FnNumDown', WHERE WHAT IT READS IS OF BULK AT MOST 1048576: true; the input reads as it did. -/
def fnNumDownUptoRow : OpenClaim := { program := "ytelkblmkpinpoaa", sum := "7f353f31b1b2c350cbd6072eded9978ef4a876224ff247d1a7bf6923e2123604", func := "loop.example/alidade/laws.FnNumDown", spec := "fnNumDown", unfollowed := true, recurses := true, apart := false, narrowed := true }
def FnNumDownUptoSaid : Prop := fnNumDownUptoRow.holds Try.pinned (OpenSpec.upto fnNumDownSpec)

/-- 'laws.FnNumUp', WHERE WHAT IT READS IS OF BULK AT MOST 1048576: true; the input reads as it did. -/
def fnNumUpUptoRow : OpenClaim := { program := "ytelkblmkpinpoaa", sum := "7f353f31b1b2c350cbd6072eded9978ef4a876224ff247d1a7bf6923e2123604", func := "loop.example/alidade/laws.FnNumUp", spec := "fnNumUp", unfollowed := true, recurses := true, apart := false, narrowed := true }
def FnNumUpUptoSaid : Prop := fnNumUpUptoRow.holds Try.pinned (OpenSpec.upto fnNumUpSpec)

/-- 'laws.FnNumRound', WHERE WHAT IT READS IS OF BULK AT MOST 1048576: true; the input reads as it did. -/
def fnNumRoundUptoRow : OpenClaim := { program := "ytelkblmkpinpoaa", sum := "7f353f31b1b2c350cbd6072eded9978ef4a876224ff247d1a7bf6923e2123604", func := "loop.example/alidade/laws.FnNumRound", spec := "fnNumRound", unfollowed := true, recurses := true, apart := false, narrowed := true }
def FnNumRoundUptoSaid : Prop := fnNumRoundUptoRow.holds Try.pinned (OpenSpec.upto fnNumRoundSpec)

/-- 'laws.FnNumEven', WHERE WHAT IT READS IS OF BULK AT MOST 1048576: true; the input reads as it did. -/
def fnNumEvenUptoRow : OpenClaim := { program := "ytelkblmkpinpoaa", sum := "7f353f31b1b2c350cbd6072eded9978ef4a876224ff247d1a7bf6923e2123604", func := "loop.example/alidade/laws.FnNumEven", spec := "fnNumEven", unfollowed := true, recurses := true, apart := false, narrowed := true }
def FnNumEvenUptoSaid : Prop := fnNumEvenUptoRow.holds Try.pinned (OpenSpec.upto fnNumEvenSpec)

/-- 'laws.FnNumWays', WHERE WHAT IT READS IS OF BULK AT MOST 1048576: true; the input reads as it did. -/
def fnNumWaysUptoRow : OpenClaim := { program := "ytelkblmkpinpoaa", sum := "7f353f31b1b2c350cbd6072eded9978ef4a876224ff247d1a7bf6923e2123604", func := "loop.example/alidade/laws.FnNumWays", spec := "fnNumWays", unfollowed := true, recurses := true, apart := false, narrowed := true }
def FnNumWaysUptoSaid : Prop := fnNumWaysUptoRow.holds Try.pinned (OpenSpec.upto fnNumWaysSpec)

/-- 'laws.FnNumTurn', WHERE WHAT IT READS IS OF BULK AT MOST 1048576: true; the input reads as it did. -/
def fnNumTurnUptoRow : OpenClaim := { program := "ytelkblmkpinpoaa", sum := "7f353f31b1b2c350cbd6072eded9978ef4a876224ff247d1a7bf6923e2123604", func := "loop.example/alidade/laws.FnNumTurn", spec := "fnNumTurn", unfollowed := true, recurses := true, apart := false, narrowed := true }
def FnNumTurnUptoSaid : Prop := fnNumTurnUptoRow.holds Try.pinned (OpenSpec.upto fnNumTurnSpec)

end Rows
end Go.Proofs.Ytelkblmkpinpoaa
