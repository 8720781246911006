/-
  What the draws of chapter 1's arguments return: numbers, whatever the code.
-/
import Derived.Test.YtlhkedollclfiagRows
import Derived.Test.YtlhkedollclfiagDrawKit
import Derived.Test.YtlhkedollclfiagDrawWalks
import Derived.Test.YtlhkedollclfiagDrawBig
import Derived.WalkKit
import Derived.Below
import Derived.Deep.RegionWith
namespace Go.Proofs.Ytlhkedollclfiag
open Go.RowKit
set_option linter.unusedVariables false

namespace DW
open DK

theorem at3 (a b c : Int) {u : Int} (h0 : 0 ≤ u) (h1 : u < 3) : ∃ z : Int, ([Value.int .i64 a, .int .i64 b, .int .i64 c] : List Value)[u.toNat]? = some (.int .i64 z) ∧ ∀ h : u.toNat < ([Value.int .i64 a, .int .i64 b, .int .i64 c] : List Value).length, ([Value.int .i64 a, .int .i64 b, .int .i64 c] : List Value)[u.toNat]'h = .int .i64 z := by
  rcases (show u = 0 ∨ u = 1 ∨ u = 2 by omega) with rfl | rfl | rfl
  · exact ⟨a, rfl, fun _ => rfl⟩
  · exact ⟨b, rfl, fun _ => rfl⟩
  · exact ⟨c, rfl, fun _ => rfl⟩
theorem at4 (a b c d : Int) {u : Int} (h0 : 0 ≤ u) (h1 : u < 4) : ∃ z : Int, ([Value.int .i64 a, .int .i64 b, .int .i64 c, .int .i64 d] : List Value)[u.toNat]? = some (.int .i64 z) ∧ ∀ h : u.toNat < ([Value.int .i64 a, .int .i64 b, .int .i64 c, .int .i64 d] : List Value).length, ([Value.int .i64 a, .int .i64 b, .int .i64 c, .int .i64 d] : List Value)[u.toNat]'h = .int .i64 z := by
  rcases (show u = 0 ∨ u = 1 ∨ u = 2 ∨ u = 3 by omega) with rfl | rfl | rfl | rfl
  · exact ⟨a, rfl, fun _ => rfl⟩
  · exact ⟨b, rfl, fun _ => rfl⟩
  · exact ⟨c, rfl, fun _ => rfl⟩
  · exact ⟨d, rfl, fun _ => rfl⟩


end DW
end Go.Proofs.Ytlhkedollclfiag
