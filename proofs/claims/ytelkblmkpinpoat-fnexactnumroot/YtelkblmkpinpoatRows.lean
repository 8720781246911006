/-
  No cell of these rows narrows 'for every input' (looked for: loops, veiled, ifaces, maps, wideKeys, modest, calm, conditions, laid).
  DERIVED. THE GIVEN ROWS OF THIS SEAT. 3 by the template 'for every input the law returns true; each argument reads behind the call as it read before'; 0 by the template 'total and deterministic' (their statements: YtelkblmkpinpoatTotals.lean).
  GIVEN WITH THE SEED: the statements are not yours to turn. If you find one false, say at which input.
  Laid BY PROGRAM, IN A SANDBOX (cutbox-rows.mjs): the forced cells as the released guide's own fill.sh prints them over the translation 8448cd3deb3478cc… (all of the seat's roots in one cut). By AI agents, Wed Nov 11 2026. No macro, syntax, notation, axiom, sorry.
-/
import Derived.Test.YtelkblmkpinpoatChecked
import GoSem.Claim
import GoSem.ClaimJoined
import GoSem.ClaimMapViews
import Derived.JoinedTies
import Derived.KernelRfl
namespace Go.Proofs.Ytelkblmkpinpoat
/- THE CELL 'sum', in the pinned program and in every row, IS THE sha256 OF THE DUMP (.gsa) THAT YtelkblmkpinpoatProg.lean LOADS. Nothing in Lean hashes anything: it is a label: what it is worth is what the hold of that sum in a sandbox is worth. -/
noncomputable def Try.pinned : Pinned := { name := "ytelkblmkpinpoat", sum := "8448cd3deb3478cc089b65a66fb3c675ce094ae2967965daf9b745d73d24ace5", checked := Try.checked }
namespace Rows
def none {H : Type} : Left H := { results := [], args := [] }

/-- 'laws.FnExactNumUp': WHATEVER THE INPUT: true; the input reads as it did. -/
def fnExactNumUpSpec : ChangeSpec := { name := "fnExactNumUp", fn := fun _ => fun
  | [d1, d2] => { results := [.lit (.bool true)], args := [d1, d2] }
  | _ => none }
def fnExactNumUpRow : OpenClaim := { program := "ytelkblmkpinpoat", sum := "8448cd3deb3478cc089b65a66fb3c675ce094ae2967965daf9b745d73d24ace5", func := "loop.example/alidade/laws.FnExactNumUp", spec := "fnExactNumUp", unfollowed := true, recurses := true, apart := false }
def FnExactNumUpSaid : Prop := fnExactNumUpRow.holds Try.pinned (OpenSpec.ofChange fnExactNumUpSpec)

/-- ITS FALSE NEIGHBOUR: 'it returns false'. Refute it at one input. -/
def fnExactNumUpWrong : ChangeSpec := { name := "fnExactNumUp", fn := fun _ => fun
  | [d1, d2] => { results := [.lit (.bool false)], args := [d1, d2] }
  | _ => none }
def FnExactNumUpWrongFalsely : Prop := fnExactNumUpRow.holds Try.pinned (OpenSpec.ofChange fnExactNumUpWrong)

/-- 'laws.FnExactNumRound': WHATEVER THE INPUT: true; the input reads as it did. -/
def fnExactNumRoundSpec : ChangeSpec := { name := "fnExactNumRound", fn := fun _ => fun
  | [d1, d2, d3] => { results := [.lit (.bool true)], args := [d1, d2, d3] }
  | _ => none }
def fnExactNumRoundRow : OpenClaim := { program := "ytelkblmkpinpoat", sum := "8448cd3deb3478cc089b65a66fb3c675ce094ae2967965daf9b745d73d24ace5", func := "loop.example/alidade/laws.FnExactNumRound", spec := "fnExactNumRound", unfollowed := true, recurses := true, apart := false }
def FnExactNumRoundSaid : Prop := fnExactNumRoundRow.holds Try.pinned (OpenSpec.ofChange fnExactNumRoundSpec)

/-- ITS FALSE NEIGHBOUR: 'it returns false'. Refute it at one input. -/
def fnExactNumRoundWrong : ChangeSpec := { name := "fnExactNumRound", fn := fun _ => fun
  | [d1, d2, d3] => { results := [.lit (.bool false)], args := [d1, d2, d3] }
  | _ => none }
def FnExactNumRoundWrongFalsely : Prop := fnExactNumRoundRow.holds Try.pinned (OpenSpec.ofChange fnExactNumRoundWrong)

/-- 'laws.FnExactNumRoot': WHATEVER THE INPUT: true; the input reads as it did. -/
def fnExactNumRootSpec : ChangeSpec := { name := "fnExactNumRoot", fn := fun _ => fun
  | [d] => { results := [.lit (.bool true)], args := [d] }
  | _ => none }
def fnExactNumRootRow : OpenClaim := { program := "ytelkblmkpinpoat", sum := "8448cd3deb3478cc089b65a66fb3c675ce094ae2967965daf9b745d73d24ace5", func := "loop.example/alidade/laws.FnExactNumRoot", spec := "fnExactNumRoot", apart := false }
def FnExactNumRootSaid : Prop := fnExactNumRootRow.holds Try.pinned (OpenSpec.ofChange fnExactNumRootSpec)

/-- ITS FALSE NEIGHBOUR: 'it returns false'. Refute it at one input. -/
def fnExactNumRootWrong : ChangeSpec := { name := "fnExactNumRoot", fn := fun _ => fun
  | [d] => { results := [.lit (.bool false)], args := [d] }
  | _ => none }
def FnExactNumRootWrongFalsely : Prop := fnExactNumRootRow.holds Try.pinned (OpenSpec.ofChange fnExactNumRootWrong)

/- THE SECOND FORM. 'bulk': how many values and letters a reading holds, each counted each time it is reached (what is shared counts as often as it is met; a slice's spare places count too). A statement '..UptoSaid' is the law's where the arguments, and the package variables that the reading takes, are together of bulk at most 1048576: NARROWER than '..Said'. Prove '..Said' where nothing that the law and all that it calls make is longer than what came in: it says more and counts as full. Else prove '..UptoSaid'. A law counts once. -/
mutual
def uptoBulk {H : Type} : DataW H → Nat
  | .lit (.string bytes) => bytes.length + 1
  | .lit _ => 1
  | .nil => 1
  | .ptr d => uptoBulk d + 1
  | .slice elems spare => uptoBulkAll elems + uptoBulkAll spare + 1
  | .agg parts => uptoBulkAll parts + 1
  | .iface _ d => uptoBulk d + 1
  | .map entries => uptoBulkEntries entries + 1
  | .held _ => 1
def uptoBulkAll {H : Type} : List (DataW H) → Nat
  | [] => 0
  | d :: r => uptoBulk d + uptoBulkAll r
def uptoBulkEntries {H : Type} : List (Lit × DataW H) → Nat
  | [] => 0
  | x :: r => uptoBulkEntry x + uptoBulkEntries r
def uptoBulkEntry {H : Type} : Lit × DataW H → Nat
  | (.string bytes, d) => bytes.length + uptoBulk d + 1
  | (_, d) => uptoBulk d + 1
 end
def uptoSmall : (H : Type) → List (DataW H) → Bool := fun _ ds => decide (uptoBulkAll ds ≤ 1048576)
def OpenSpec.upto (s : _root_.Go.ChangeSpec) : _root_.Go.OpenSpec := { _root_.Go.OpenSpec.ofChange s with cond := some uptoSmall }

/-- 'laws.FnExactNumUp', WHERE WHAT IT READS IS OF BULK AT MOST 1048576: true; the input reads as it did. -/
def fnExactNumUpUptoRow : OpenClaim := { program := "ytelkblmkpinpoat", sum := "8448cd3deb3478cc089b65a66fb3c675ce094ae2967965daf9b745d73d24ace5", func := "loop.example/alidade/laws.FnExactNumUp", spec := "fnExactNumUp", unfollowed := true, recurses := true, apart := false, narrowed := true }
def FnExactNumUpUptoSaid : Prop := fnExactNumUpUptoRow.holds Try.pinned (OpenSpec.upto fnExactNumUpSpec)

/-- 'laws.FnExactNumRound', WHERE WHAT IT READS IS OF BULK AT MOST 1048576: true; the input reads as it did. -/
def fnExactNumRoundUptoRow : OpenClaim := { program := "ytelkblmkpinpoat", sum := "8448cd3deb3478cc089b65a66fb3c675ce094ae2967965daf9b745d73d24ace5", func := "loop.example/alidade/laws.FnExactNumRound", spec := "fnExactNumRound", unfollowed := true, recurses := true, apart := false, narrowed := true }
def FnExactNumRoundUptoSaid : Prop := fnExactNumRoundUptoRow.holds Try.pinned (OpenSpec.upto fnExactNumRoundSpec)

/-- 'laws.FnExactNumRoot', WHERE WHAT IT READS IS OF BULK AT MOST 1048576: true; the input reads as it did. -/
def fnExactNumRootUptoRow : OpenClaim := { program := "ytelkblmkpinpoat", sum := "8448cd3deb3478cc089b65a66fb3c675ce094ae2967965daf9b745d73d24ace5", func := "loop.example/alidade/laws.FnExactNumRoot", spec := "fnExactNumRoot", apart := false, narrowed := true }
def FnExactNumRootUptoSaid : Prop := fnExactNumRootUptoRow.holds Try.pinned (OpenSpec.upto fnExactNumRootSpec)

end Rows
end Go.Proofs.Ytelkblmkpinpoat
