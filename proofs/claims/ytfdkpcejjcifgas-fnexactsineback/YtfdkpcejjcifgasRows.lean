/-
  No cell of these rows narrows 'for every input' (looked for: loops, veiled, ifaces, maps, wideKeys, modest, calm, conditions, laid).
  DERIVED. THE GIVEN ROWS OF THIS SEAT. 5 by the template 'for every input the law returns true; each argument reads behind the call as it read before'; 0 by the template 'total and deterministic' (their statements: YtfdkpcejjcifgasTotals.lean).
  GIVEN WITH THE SEED: the statements are not yours to turn. If you find one false, say at which input.
  Laid BY PROGRAM, IN A SANDBOX (cutbox-rows.mjs): the forced cells as the released guide's own fill.sh prints them over the translation 18bcf853618f815b… (all of the seat's roots in one cut). By AI agents, Wed Nov 11 2026. No macro, syntax, notation, axiom, sorry.
-/
import Derived.Test.YtfdkpcejjcifgasChecked
import GoSem.Claim
import GoSem.ClaimJoined
import GoSem.ClaimMapViews
import Derived.JoinedTies
import Derived.KernelRfl
namespace Go.Proofs.Ytfdkpcejjcifgas
/- THE CELL 'sum', in the pinned program and in every row, IS THE sha256 OF THE DUMP (.gsa) THAT YtfdkpcejjcifgasProg.lean LOADS. Nothing in Lean hashes anything: it is a label: what it is worth is what the hold of that sum in a sandbox is worth. -/
noncomputable def Try.pinned : Pinned := { name := "ytfdkpcejjcifgas", sum := "18bcf853618f815b80057a5f435f8f30e35a38fcbc6ac3ceab862fcd3bc5ca3b", checked := Try.checked }
namespace Rows
def none {H : Type} : Left H := { results := [], args := [] }

/-- 'laws.FnExactSineBack': WHATEVER THE INPUT: true; the input reads as it did. -/
def fnExactSineBackSpec : ChangeSpec := { name := "fnExactSineBack", fn := fun _ => fun
  | [d] => { results := [.lit (.bool true)], args := [d] }
  | _ => none }
def fnExactSineBackRow : OpenClaim := { program := "ytfdkpcejjcifgas", sum := "18bcf853618f815b80057a5f435f8f30e35a38fcbc6ac3ceab862fcd3bc5ca3b", func := "loop.example/alidade/laws.FnExactSineBack", spec := "fnExactSineBack", unfollowed := true, recurses := true, apart := false }
def FnExactSineBackSaid : Prop := fnExactSineBackRow.holds Try.pinned (OpenSpec.ofChange fnExactSineBackSpec)

/-- ITS FALSE NEIGHBOUR: 'it returns false'. Refute it at one input. -/
def fnExactSineBackWrong : ChangeSpec := { name := "fnExactSineBack", fn := fun _ => fun
  | [d] => { results := [.lit (.bool false)], args := [d] }
  | _ => none }
def FnExactSineBackWrongFalsely : Prop := fnExactSineBackRow.holds Try.pinned (OpenSpec.ofChange fnExactSineBackWrong)

/-- 'laws.FnExactCosBack': WHATEVER THE INPUT: true; the input reads as it did. -/
def fnExactCosBackSpec : ChangeSpec := { name := "fnExactCosBack", fn := fun _ => fun
  | [d] => { results := [.lit (.bool true)], args := [d] }
  | _ => none }
def fnExactCosBackRow : OpenClaim := { program := "ytfdkpcejjcifgas", sum := "18bcf853618f815b80057a5f435f8f30e35a38fcbc6ac3ceab862fcd3bc5ca3b", func := "loop.example/alidade/laws.FnExactCosBack", spec := "fnExactCosBack", unfollowed := true, recurses := true, apart := false }
def FnExactCosBackSaid : Prop := fnExactCosBackRow.holds Try.pinned (OpenSpec.ofChange fnExactCosBackSpec)

/-- ITS FALSE NEIGHBOUR: 'it returns false'. Refute it at one input. -/
def fnExactCosBackWrong : ChangeSpec := { name := "fnExactCosBack", fn := fun _ => fun
  | [d] => { results := [.lit (.bool false)], args := [d] }
  | _ => none }
def FnExactCosBackWrongFalsely : Prop := fnExactCosBackRow.holds Try.pinned (OpenSpec.ofChange fnExactCosBackWrong)

/-- 'laws.FnExactWayOf': WHATEVER THE INPUT: true; the input reads as it did. -/
def fnExactWayOfSpec : ChangeSpec := { name := "fnExactWayOf", fn := fun _ => fun
  | [d1, d2] => { results := [.lit (.bool true)], args := [d1, d2] }
  | _ => none }
def fnExactWayOfRow : OpenClaim := { program := "ytfdkpcejjcifgas", sum := "18bcf853618f815b80057a5f435f8f30e35a38fcbc6ac3ceab862fcd3bc5ca3b", func := "loop.example/alidade/laws.FnExactWayOf", spec := "fnExactWayOf", unfollowed := true, recurses := true, apart := false }
def FnExactWayOfSaid : Prop := fnExactWayOfRow.holds Try.pinned (OpenSpec.ofChange fnExactWayOfSpec)

/-- ITS FALSE NEIGHBOUR: 'it returns false'. Refute it at one input. -/
def fnExactWayOfWrong : ChangeSpec := { name := "fnExactWayOf", fn := fun _ => fun
  | [d1, d2] => { results := [.lit (.bool false)], args := [d1, d2] }
  | _ => none }
def FnExactWayOfWrongFalsely : Prop := fnExactWayOfRow.holds Try.pinned (OpenSpec.ofChange fnExactWayOfWrong)

/-- 'laws.FnExactFanHas': WHATEVER THE INPUT: true; the input reads as it did. -/
def fnExactFanHasSpec : ChangeSpec := { name := "fnExactFanHas", fn := fun _ => fun
  | [d1, d2] => { results := [.lit (.bool true)], args := [d1, d2] }
  | _ => none }
def fnExactFanHasRow : OpenClaim := { program := "ytfdkpcejjcifgas", sum := "18bcf853618f815b80057a5f435f8f30e35a38fcbc6ac3ceab862fcd3bc5ca3b", func := "loop.example/alidade/laws.FnExactFanHas", spec := "fnExactFanHas", apart := false }
def FnExactFanHasSaid : Prop := fnExactFanHasRow.holds Try.pinned (OpenSpec.ofChange fnExactFanHasSpec)

/-- ITS FALSE NEIGHBOUR: 'it returns false'. Refute it at one input. -/
def fnExactFanHasWrong : ChangeSpec := { name := "fnExactFanHas", fn := fun _ => fun
  | [d1, d2] => { results := [.lit (.bool false)], args := [d1, d2] }
  | _ => none }
def FnExactFanHasWrongFalsely : Prop := fnExactFanHasRow.holds Try.pinned (OpenSpec.ofChange fnExactFanHasWrong)

/-- 'laws.FnExactNumDown': WHATEVER THE INPUT: true; the input reads as it did. -/
def fnExactNumDownSpec : ChangeSpec := { name := "fnExactNumDown", fn := fun _ => fun
  | [d1, d2] => { results := [.lit (.bool true)], args := [d1, d2] }
  | _ => none }
def fnExactNumDownRow : OpenClaim := { program := "ytfdkpcejjcifgas", sum := "18bcf853618f815b80057a5f435f8f30e35a38fcbc6ac3ceab862fcd3bc5ca3b", func := "loop.example/alidade/laws.FnExactNumDown", spec := "fnExactNumDown", unfollowed := true, recurses := true, apart := false }
def FnExactNumDownSaid : Prop := fnExactNumDownRow.holds Try.pinned (OpenSpec.ofChange fnExactNumDownSpec)

/-- ITS FALSE NEIGHBOUR: 'it returns false'. Refute it at one input. -/
def fnExactNumDownWrong : ChangeSpec := { name := "fnExactNumDown", fn := fun _ => fun
  | [d1, d2] => { results := [.lit (.bool false)], args := [d1, d2] }
  | _ => none }
def FnExactNumDownWrongFalsely : Prop := fnExactNumDownRow.holds Try.pinned (OpenSpec.ofChange fnExactNumDownWrong)

/- THE SECOND FORM. 'bulk': how many values and letters a reading holds, each counted each time it is reached (what is shared counts as often as it is met; a slice's spare places count too). A statement '..UptoSaid' is the law's where the arguments, and the package variables that the reading takes, are together of bulk at most 1048576: NARROWER than '..Said'. Prove '..Said' where nothing that the law and all that it calls make is longer than what came in: it says more and counts as full. Else prove '..UptoSaid'. A law counts once. -/
mutual
def uptoBulk {H : Type} : DataW H → Nat
  | .lit (.string bytes) => bytes.length + 1
  | .lit _ => 1
  | .nil => 1
  | .ptr d => uptoBulk d + 1
  | .slice elems spare => uptoBulkAll elems + uptoBulkAll spare + 1
  | .agg parts => uptoBulkAll parts + 1
  | .iface _ d => uptoBulk d + 1
  | .map entries => uptoBulkEntries entries + 1
  | .held _ => 1
def uptoBulkAll {H : Type} : List (DataW H) → Nat
  | [] => 0
  | d :: r => uptoBulk d + uptoBulkAll r
def uptoBulkEntries {H : Type} : List (Lit × DataW H) → Nat
  | [] => 0
  | x :: r => uptoBulkEntry x + uptoBulkEntries r
def uptoBulkEntry {H : Type} : Lit × DataW H → Nat
  | (.string bytes, d) => bytes.length + uptoBulk d + 1
  | (_, d) => uptoBulk d + 1
 end
def uptoSmall : (H : Type) → List (DataW H) → Bool := fun _ ds => decide (uptoBulkAll ds ≤ 1048576)
def OpenSpec.upto (s : _root_.Go.ChangeSpec) : _root_.Go.OpenSpec := { _root_.Go.OpenSpec.ofChange s with cond := some uptoSmall }

/-- 'laws.FnExactSineBack', WHERE WHAT IT READS IS OF BULK AT MOST 1048576: true; the input reads as it did. -/
def fnExactSineBackUptoRow : OpenClaim := { program := "ytfdkpcejjcifgas", sum := "18bcf853618f815b80057a5f435f8f30e35a38fcbc6ac3ceab862fcd3bc5ca3b", func := "loop.example/alidade/laws.FnExactSineBack", spec := "fnExactSineBack", unfollowed := true, recurses := true, apart := false, narrowed := true }
def FnExactSineBackUptoSaid : Prop := fnExactSineBackUptoRow.holds Try.pinned (OpenSpec.upto fnExactSineBackSpec)

/-- 'laws.FnExactCosBack', WHERE WHAT IT READS IS OF BULK AT MOST 1048576: true; the input reads as it did. -/
def fnExactCosBackUptoRow : OpenClaim := { program := "ytfdkpcejjcifgas", sum := "18bcf853618f815b80057a5f435f8f30e35a38fcbc6ac3ceab862fcd3bc5ca3b", func := "loop.example/alidade/laws.FnExactCosBack", spec := "fnExactCosBack", unfollowed := true, recurses := true, apart := false, narrowed := true }
def FnExactCosBackUptoSaid : Prop := fnExactCosBackUptoRow.holds Try.pinned (OpenSpec.upto fnExactCosBackSpec)

/-- 'laws.FnExactWayOf', WHERE WHAT IT READS IS OF BULK AT MOST 1048576: true; the input reads as it did. -/
def fnExactWayOfUptoRow : OpenClaim := { program := "ytfdkpcejjcifgas", sum := "18bcf853618f815b80057a5f435f8f30e35a38fcbc6ac3ceab862fcd3bc5ca3b", func := "loop.example/alidade/laws.FnExactWayOf", spec := "fnExactWayOf", unfollowed := true, recurses := true, apart := false, narrowed := true }
def FnExactWayOfUptoSaid : Prop := fnExactWayOfUptoRow.holds Try.pinned (OpenSpec.upto fnExactWayOfSpec)

/-- 'laws.FnExactFanHas', WHERE WHAT IT READS IS OF BULK AT MOST 1048576: true; the input reads as it did. -/
def fnExactFanHasUptoRow : OpenClaim := { program := "ytfdkpcejjcifgas", sum := "18bcf853618f815b80057a5f435f8f30e35a38fcbc6ac3ceab862fcd3bc5ca3b", func := "loop.example/alidade/laws.FnExactFanHas", spec := "fnExactFanHas", apart := false, narrowed := true }
def FnExactFanHasUptoSaid : Prop := fnExactFanHasUptoRow.holds Try.pinned (OpenSpec.upto fnExactFanHasSpec)

/-- 'laws.FnExactNumDown', WHERE WHAT IT READS IS OF BULK AT MOST 1048576: true; the input reads as it did. -/
def fnExactNumDownUptoRow : OpenClaim := { program := "ytfdkpcejjcifgas", sum := "18bcf853618f815b80057a5f435f8f30e35a38fcbc6ac3ceab862fcd3bc5ca3b", func := "loop.example/alidade/laws.FnExactNumDown", spec := "fnExactNumDown", unfollowed := true, recurses := true, apart := false, narrowed := true }
def FnExactNumDownUptoSaid : Prop := fnExactNumDownUptoRow.holds Try.pinned (OpenSpec.upto fnExactNumDownSpec)

end Rows
end Go.Proofs.Ytfdkpcejjcifgas
