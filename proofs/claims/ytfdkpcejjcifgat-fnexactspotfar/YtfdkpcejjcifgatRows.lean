/-
  No cell of these rows narrows 'for every input' (looked for: loops, veiled, ifaces, maps, wideKeys, modest, calm, conditions, laid).
  DERIVED. THE GIVEN ROWS OF THIS SEAT. 6 by the template 'for every input the law returns true; each argument reads behind the call as it read before'; 0 by the template 'total and deterministic' (their statements: YtfdkpcejjcifgatTotals.lean).
  GIVEN WITH THE SEED: the statements are not yours to turn. If you find one false, say at which input.
  Laid BY PROGRAM, IN A SANDBOX (cutbox-rows.mjs): the forced cells as the released guide's own fill.sh prints them over the translation 521a2aced398a637… (all of the seat's roots in one cut). By AI agents, Wed Nov 11 2026. No macro, syntax, notation, axiom, sorry.
-/
import Derived.Test.YtfdkpcejjcifgatChecked
import GoSem.Claim
import GoSem.ClaimJoined
import GoSem.ClaimMapViews
import Derived.JoinedTies
import Derived.KernelRfl
namespace Go.Proofs.Ytfdkpcejjcifgat
/- THE CELL 'sum', in the pinned program and in every row, IS THE sha256 OF THE DUMP (.gsa) THAT YtfdkpcejjcifgatProg.lean LOADS. Nothing in Lean hashes anything: it is a label: what it is worth is what the hold of that sum in a sandbox is worth. -/
noncomputable def Try.pinned : Pinned := { name := "ytfdkpcejjcifgat", sum := "521a2aced398a6370d6702189e4cbc9c252afc9293a912dfcb538ec67aa300ea", checked := Try.checked }
namespace Rows
def none {H : Type} : Left H := { results := [], args := [] }

/-- 'laws.FnExactNumUp': WHATEVER THE INPUT: true; the input reads as it did. -/
def fnExactNumUpSpec : ChangeSpec := { name := "fnExactNumUp", fn := fun _ => fun
  | [d1, d2] => { results := [.lit (.bool true)], args := [d1, d2] }
  | _ => none }
def fnExactNumUpRow : OpenClaim := { program := "ytfdkpcejjcifgat", sum := "521a2aced398a6370d6702189e4cbc9c252afc9293a912dfcb538ec67aa300ea", func := "loop.example/alidade/laws.FnExactNumUp", spec := "fnExactNumUp", unfollowed := true, recurses := true, apart := false }
def FnExactNumUpSaid : Prop := fnExactNumUpRow.holds Try.pinned (OpenSpec.ofChange fnExactNumUpSpec)

/-- ITS FALSE NEIGHBOUR: 'it returns false'. Refute it at one input. -/
def fnExactNumUpWrong : ChangeSpec := { name := "fnExactNumUp", fn := fun _ => fun
  | [d1, d2] => { results := [.lit (.bool false)], args := [d1, d2] }
  | _ => none }
def FnExactNumUpWrongFalsely : Prop := fnExactNumUpRow.holds Try.pinned (OpenSpec.ofChange fnExactNumUpWrong)

/-- 'laws.FnExactNumRound': WHATEVER THE INPUT: true; the input reads as it did. -/
def fnExactNumRoundSpec : ChangeSpec := { name := "fnExactNumRound", fn := fun _ => fun
  | [d1, d2, d3] => { results := [.lit (.bool true)], args := [d1, d2, d3] }
  | _ => none }
def fnExactNumRoundRow : OpenClaim := { program := "ytfdkpcejjcifgat", sum := "521a2aced398a6370d6702189e4cbc9c252afc9293a912dfcb538ec67aa300ea", func := "loop.example/alidade/laws.FnExactNumRound", spec := "fnExactNumRound", unfollowed := true, recurses := true, apart := false }
def FnExactNumRoundSaid : Prop := fnExactNumRoundRow.holds Try.pinned (OpenSpec.ofChange fnExactNumRoundSpec)

/-- ITS FALSE NEIGHBOUR: 'it returns false'. Refute it at one input. -/
def fnExactNumRoundWrong : ChangeSpec := { name := "fnExactNumRound", fn := fun _ => fun
  | [d1, d2, d3] => { results := [.lit (.bool false)], args := [d1, d2, d3] }
  | _ => none }
def FnExactNumRoundWrongFalsely : Prop := fnExactNumRoundRow.holds Try.pinned (OpenSpec.ofChange fnExactNumRoundWrong)

/-- 'laws.FnExactNumRoot': WHATEVER THE INPUT: true; the input reads as it did. -/
def fnExactNumRootSpec : ChangeSpec := { name := "fnExactNumRoot", fn := fun _ => fun
  | [d] => { results := [.lit (.bool true)], args := [d] }
  | _ => none }
def fnExactNumRootRow : OpenClaim := { program := "ytfdkpcejjcifgat", sum := "521a2aced398a6370d6702189e4cbc9c252afc9293a912dfcb538ec67aa300ea", func := "loop.example/alidade/laws.FnExactNumRoot", spec := "fnExactNumRoot", apart := false }
def FnExactNumRootSaid : Prop := fnExactNumRootRow.holds Try.pinned (OpenSpec.ofChange fnExactNumRootSpec)

/-- ITS FALSE NEIGHBOUR: 'it returns false'. Refute it at one input. -/
def fnExactNumRootWrong : ChangeSpec := { name := "fnExactNumRoot", fn := fun _ => fun
  | [d] => { results := [.lit (.bool false)], args := [d] }
  | _ => none }
def FnExactNumRootWrongFalsely : Prop := fnExactNumRootRow.holds Try.pinned (OpenSpec.ofChange fnExactNumRootWrong)

/-- 'laws.FnExactSpotOk': WHATEVER THE INPUT: true; the input reads as it did. -/
def fnExactSpotOkSpec : ChangeSpec := { name := "fnExactSpotOk", fn := fun _ => fun
  | [d] => { results := [.lit (.bool true)], args := [d] }
  | _ => none }
def fnExactSpotOkRow : OpenClaim := { program := "ytfdkpcejjcifgat", sum := "521a2aced398a6370d6702189e4cbc9c252afc9293a912dfcb538ec67aa300ea", func := "loop.example/alidade/laws.FnExactSpotOk", spec := "fnExactSpotOk", apart := false }
def FnExactSpotOkSaid : Prop := fnExactSpotOkRow.holds Try.pinned (OpenSpec.ofChange fnExactSpotOkSpec)

/-- ITS FALSE NEIGHBOUR: 'it returns false'. Refute it at one input. -/
def fnExactSpotOkWrong : ChangeSpec := { name := "fnExactSpotOk", fn := fun _ => fun
  | [d] => { results := [.lit (.bool false)], args := [d] }
  | _ => none }
def FnExactSpotOkWrongFalsely : Prop := fnExactSpotOkRow.holds Try.pinned (OpenSpec.ofChange fnExactSpotOkWrong)

/-- 'laws.FnExactSpotSame': WHATEVER THE INPUT: true; the input reads as it did. -/
def fnExactSpotSameSpec : ChangeSpec := { name := "fnExactSpotSame", fn := fun _ => fun
  | [d1, d2] => { results := [.lit (.bool true)], args := [d1, d2] }
  | _ => none }
def fnExactSpotSameRow : OpenClaim := { program := "ytfdkpcejjcifgat", sum := "521a2aced398a6370d6702189e4cbc9c252afc9293a912dfcb538ec67aa300ea", func := "loop.example/alidade/laws.FnExactSpotSame", spec := "fnExactSpotSame", apart := false }
def FnExactSpotSameSaid : Prop := fnExactSpotSameRow.holds Try.pinned (OpenSpec.ofChange fnExactSpotSameSpec)

/-- ITS FALSE NEIGHBOUR: 'it returns false'. Refute it at one input. -/
def fnExactSpotSameWrong : ChangeSpec := { name := "fnExactSpotSame", fn := fun _ => fun
  | [d1, d2] => { results := [.lit (.bool false)], args := [d1, d2] }
  | _ => none }
def FnExactSpotSameWrongFalsely : Prop := fnExactSpotSameRow.holds Try.pinned (OpenSpec.ofChange fnExactSpotSameWrong)

/-- 'laws.FnExactSpotFar': WHATEVER THE INPUT: true; the input reads as it did. -/
def fnExactSpotFarSpec : ChangeSpec := { name := "fnExactSpotFar", fn := fun _ => fun
  | [d] => { results := [.lit (.bool true)], args := [d] }
  | _ => none }
def fnExactSpotFarRow : OpenClaim := { program := "ytfdkpcejjcifgat", sum := "521a2aced398a6370d6702189e4cbc9c252afc9293a912dfcb538ec67aa300ea", func := "loop.example/alidade/laws.FnExactSpotFar", spec := "fnExactSpotFar", apart := false }
def FnExactSpotFarSaid : Prop := fnExactSpotFarRow.holds Try.pinned (OpenSpec.ofChange fnExactSpotFarSpec)

/-- ITS FALSE NEIGHBOUR: 'it returns false'. Refute it at one input. -/
def fnExactSpotFarWrong : ChangeSpec := { name := "fnExactSpotFar", fn := fun _ => fun
  | [d] => { results := [.lit (.bool false)], args := [d] }
  | _ => none }
def FnExactSpotFarWrongFalsely : Prop := fnExactSpotFarRow.holds Try.pinned (OpenSpec.ofChange fnExactSpotFarWrong)

/- THE SECOND FORM. 'bulk': how many values and letters a reading holds, each counted each time it is reached (what is shared counts as often as it is met; a slice's spare places count too). A statement '..UptoSaid' is the law's where the arguments, and the package variables that the reading takes, are together of bulk at most 1048576: NARROWER than '..Said'. Prove '..Said' where nothing that the law and all that it calls make is longer than what came in: it says more and counts as full. Else prove '..UptoSaid'. A law counts once. -/
mutual
def uptoBulk {H : Type} : DataW H → Nat
  | .lit (.string bytes) => bytes.length + 1
  | .lit _ => 1
  | .nil => 1
  | .ptr d => uptoBulk d + 1
  | .slice elems spare => uptoBulkAll elems + uptoBulkAll spare + 1
  | .agg parts => uptoBulkAll parts + 1
  | .iface _ d => uptoBulk d + 1
  | .map entries => uptoBulkEntries entries + 1
  | .held _ => 1
def uptoBulkAll {H : Type} : List (DataW H) → Nat
  | [] => 0
  | d :: r => uptoBulk d + uptoBulkAll r
def uptoBulkEntries {H : Type} : List (Lit × DataW H) → Nat
  | [] => 0
  | x :: r => uptoBulkEntry x + uptoBulkEntries r
def uptoBulkEntry {H : Type} : Lit × DataW H → Nat
  | (.string bytes, d) => bytes.length + uptoBulk d + 1
  | (_, d) => uptoBulk d + 1
 end
def uptoSmall : (H : Type) → List (DataW H) → Bool := fun _ ds => decide (uptoBulkAll ds ≤ 1048576)
def OpenSpec.upto (s : _root_.Go.ChangeSpec) : _root_.Go.OpenSpec := { _root_.Go.OpenSpec.ofChange s with cond := some uptoSmall }

/-- 'laws.FnExactNumUp', WHERE WHAT IT READS IS OF BULK AT MOST 1048576: true; the input reads as it did. -/
def fnExactNumUpUptoRow : OpenClaim := { program := "ytfdkpcejjcifgat", sum := "521a2aced398a6370d6702189e4cbc9c252afc9293a912dfcb538ec67aa300ea", func := "loop.example/alidade/laws.FnExactNumUp", spec := "fnExactNumUp", unfollowed := true, recurses := true, apart := false, narrowed := true }
def FnExactNumUpUptoSaid : Prop := fnExactNumUpUptoRow.holds Try.pinned (OpenSpec.upto fnExactNumUpSpec)

/-- 'laws.FnExactNumRound', WHERE WHAT IT READS IS OF BULK AT MOST 1048576: true; the input reads as it did. -/
def fnExactNumRoundUptoRow : OpenClaim := { program := "ytfdkpcejjcifgat", sum := "521a2aced398a6370d6702189e4cbc9c252afc9293a912dfcb538ec67aa300ea", func := "loop.example/alidade/laws.FnExactNumRound", spec := "fnExactNumRound", unfollowed := true, recurses := true, apart := false, narrowed := true }
def FnExactNumRoundUptoSaid : Prop := fnExactNumRoundUptoRow.holds Try.pinned (OpenSpec.upto fnExactNumRoundSpec)

/-- 'laws.FnExactNumRoot', WHERE WHAT IT READS IS OF BULK AT MOST 1048576: true; the input reads as it did. -/
def fnExactNumRootUptoRow : OpenClaim := { program := "ytfdkpcejjcifgat", sum := "521a2aced398a6370d6702189e4cbc9c252afc9293a912dfcb538ec67aa300ea", func := "loop.example/alidade/laws.FnExactNumRoot", spec := "fnExactNumRoot", apart := false, narrowed := true }
def FnExactNumRootUptoSaid : Prop := fnExactNumRootUptoRow.holds Try.pinned (OpenSpec.upto fnExactNumRootSpec)

/-- 'laws.FnExactSpotOk', WHERE WHAT IT READS IS OF BULK AT MOST 1048576: true; the input reads as it did. -/
def fnExactSpotOkUptoRow : OpenClaim := { program := "ytfdkpcejjcifgat", sum := "521a2aced398a6370d6702189e4cbc9c252afc9293a912dfcb538ec67aa300ea", func := "loop.example/alidade/laws.FnExactSpotOk", spec := "fnExactSpotOk", apart := false, narrowed := true }
def FnExactSpotOkUptoSaid : Prop := fnExactSpotOkUptoRow.holds Try.pinned (OpenSpec.upto fnExactSpotOkSpec)

/-- 'laws.FnExactSpotSame', WHERE WHAT IT READS IS OF BULK AT MOST 1048576: true; the input reads as it did. -/
def fnExactSpotSameUptoRow : OpenClaim := { program := "ytfdkpcejjcifgat", sum := "521a2aced398a6370d6702189e4cbc9c252afc9293a912dfcb538ec67aa300ea", func := "loop.example/alidade/laws.FnExactSpotSame", spec := "fnExactSpotSame", apart := false, narrowed := true }
def FnExactSpotSameUptoSaid : Prop := fnExactSpotSameUptoRow.holds Try.pinned (OpenSpec.upto fnExactSpotSameSpec)

/-- 'laws.FnExactSpotFar', WHERE WHAT IT READS IS OF BULK AT MOST 1048576: true; the input reads as it did. -/
def fnExactSpotFarUptoRow : OpenClaim := { program := "ytfdkpcejjcifgat", sum := "521a2aced398a6370d6702189e4cbc9c252afc9293a912dfcb538ec67aa300ea", func := "loop.example/alidade/laws.FnExactSpotFar", spec := "fnExactSpotFar", apart := false, narrowed := true }
def FnExactSpotFarUptoSaid : Prop := fnExactSpotFarUptoRow.holds Try.pinned (OpenSpec.upto fnExactSpotFarSpec)

end Rows
end Go.Proofs.Ytfdkpcejjcifgat
