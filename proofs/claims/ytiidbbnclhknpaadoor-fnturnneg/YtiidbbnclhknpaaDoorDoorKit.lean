/-
  What the tied rows of this seat have in common: the door's own start, and what the list of laid variables gives a walk.
-/
import Derived.Test.YtiidbbnclhknpaaDoorCards
import Derived.Test.YtiidbbnclhknpaaDoorTie
import Derived.Test.YtiidbbnclhknpaaDoorSpanFits
import Derived.ProofKit
import Derived.LaidMore
import Derived.OpenShut
import Derived.Stop.Joined
import Derived.Stop.LaidErr
import Derived.SevenTiedAt
namespace Go.Proofs.YtiidbbnclhknpaaDoor
open Go.ChangeShapes Go.WideShapes Go.ChangeAt Go.RowKit
namespace DR
/-- The list of laid variables, as every row of this seat has it. -/
abbrev laid1 : List (String × DataW Unit) := [("loop.example/alidade/impl.errTooGreat", Rows.laid_loop_example_alidade_impl_errTooGreat)]
theorem gErr : Tryd.prog.globalNamed "loop.example/alidade/impl.errTooGreat" = some 0 := by kernel_rfl
theorem tErr : (Tryd.prog.globals[0]?).map (·.type) = some 65 := by kernel_rfl
theorem cellsS : Tryd.prog.cellsOf 116 = 1 := by kernel_rfl
theorem cellsT : Tryd.prog.cellsOf 9 = 1 := by kernel_rfl
theorem star : "*" ++ "errors.errorString" = "*errors.errorString" := by decide
theorem rowErr (u : TypeId) (h : Tryd.prog.typeName? 3 u = some "*errors.errorString") : u = 90 :=
  typeName_ptr_named (nm := "errors.errorString") (by rw [star]; kernel_rfl) (by kernel_rfl) (by decide) u (by rw [star]; exact h)
/-- The door's own heap meets the condition. -/
theorem door_met (os : Os) (args : Array Value) : laidMetH Tryd.prog laid1 ((World.doorLaid Tryd.prog 400 os).forCall (fun _ _ => 0) ⟨#[], args, []⟩).memory :=
  laidMetH_of_parts3 (fuel := 8) (laidMet_of_run' 8 (by kernel_rfl) (by kernel_rfl)) (by kernel_rfl) (by kernel_rfl)
/-- What the condition gives: the variable holds a sentinel. -/
theorem of_laid {W : World} (h : laidMetH Tryd.prog laid1 W) : ∃ a : Addr, W.var? Tryd.prog "loop.example/alidade/impl.errTooGreat" = some #[EI.errV a] ∧ SW.Sn a W := by
  rw [MakeChecks.laidMetH_plain _ _ _ (by kernel_rfl)] at h
  obtain ⟨a, s, hv, _, _, _⟩ := laid_sentinel h gErr tErr Tryd.underlying65 rowErr Tryd.underlying90 Tryd.underlying116 rfl rfl Tryd.underlying9 cellsS cellsT
  refine ⟨a, hv, ?_⟩
  have := World.var?_cell gErr hv 0
  show W.cell? ⟨0, 0, none⟩ = some (EI.errV a)
  simpa using this
theorem var_below {W W' : World} {n : String} {cs : Array Value} (h : W.var? Tryd.prog n = some cs) (bel : Below W.heap.size W W') : W'.var? Tryd.prog n = some cs := by
  unfold World.var? at h ⊢
  cases hg : Tryd.prog.globalNamed n with
  | none => simp [hg] at h
  | some g =>
    simp only [hg, Option.bind_some] at h ⊢
    have hlt : g < W.heap.size := by
      rcases Nat.lt_or_ge g W.heap.size with h' | h'
      · exact h'
      · simp [Array.getElem?_eq_none h'] at h
    rw [bel.block g hlt]
    exact h
/-- The variable read as a token. -/
theorem vars_read {H : Type} (enc : TypeId × Value → H) {W : World} {a : Addr} (h : W.var? Tryd.prog "loop.example/alidade/impl.errTooGreat" = some #[EI.errV a]) (sp : Nat → Bool) :
    DataW.TrodVars enc Tryd.prog W sp ["loop.example/alidade/impl.errTooGreat"] [tok enc (EI.errV a)] [.cell 0 0] :=
  vars_read1 enc gErr tErr Tryd.underlying65 h trivial sp
end DR
end Go.Proofs.YtiidbbnclhknpaaDoor
