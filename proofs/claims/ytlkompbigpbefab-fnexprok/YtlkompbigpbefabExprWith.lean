/-
  What the program makes of an Expr in form and of its Kids, made already: (impl.Expr).withKids; trees as values.
-/
import Derived.Test.YtlkompbigpbefabExprForm
import Derived.RegionTactic
import Derived.BigRegion
namespace Go.Proofs.Ytlkompbigpbefab
open Go.RowKit Go.Sort
set_option linter.unusedVariables false
set_option maxRecDepth 8000
namespace ER
open EM SK
/-- The type of a kind. -/
def kT (k : Int) : TypeId := if k = 1 then 69 else if k = 4 then 119 else if k = 2 then 74 else if k = 3 then 120 else if k = 5 then 79 else if k = 6 then 83 else if k = 7 then 84 else 85
/-- What is within a node. -/
def inV (k a b : Int) (l : List Value) : Value := .agg (if k = 1 then #[.int .i64 a, .int .i64 b] else if k = 4 then #[.int .i64 a] else l.toArray)
/-- A node, its Kids being these. -/
def nodeV (k a b : Int) (l : List Value) : Value := .iface (kT k) (inV k a b l)
end ER
open ER in
def EM.F.evV : EM.F → List Value
  | .nil => []
  | .cons k a b s r => nodeV k a b s.evV :: r.evV
namespace ER
open EM SK
theorem evV_len : ∀ s : F, s.evV.length = s.len
  | .nil => rfl
  | .cons _ _ _ _ r => by simp only [F.evV, F.len, List.length_cons, evV_len r]
theorem below_new4 (w : World) (a b c d : Obj) : Below w.heap.size w ((((w.alloc a).alloc b).alloc c).alloc d) := below1 (below1 (below1 (below_new w a) (below_new _ b)) (below_new _ c)) (below_new _ d)
set_option maxHeartbeats 4000000 in
theorem with1 (a b : Int) (p : Option Addr) (n cap : Nat) (w : World) :
    Calls Try.prog 44 #[exV 1 a b (.slice p n cap), .agg #[.nilIface, .nilIface]] w fun e w' => e = .returned (nodeV 1 a b []) ∧ Below w.heap.size w w' := by
  go_enter Try.func44, Try.ntmps44
  go_wp2
  go_region
  all_goals (go_wp2; go_ret; exact ⟨rfl, (below_new4 _ _ _ _ _).drew⟩)
set_option maxHeartbeats 4000000 in
theorem with4 (a b : Int) (p : Option Addr) (n cap : Nat) (w : World) :
    Calls Try.prog 44 #[exV 4 a b (.slice p n cap), .agg #[.nilIface, .nilIface]] w fun e w' => e = .returned (nodeV 4 a b []) ∧ Below w.heap.size w w' := by
  go_enter Try.func44, Try.ntmps44
  go_wp2
  go_region
  all_goals (go_wp2; go_ret; exact ⟨rfl, (below_new4 _ _ _ _ _).drew⟩)
set_option maxHeartbeats 4000000 in
theorem with2 (a b : Int) (p : Option Addr) (n cap : Nat) (tx : Nat) (ux : Value) (w : World) :
    Calls Try.prog 44 #[exV 2 a b (.slice p n cap), .agg #[.iface tx ux, .nilIface]] w fun e w' => e = .returned (nodeV 2 a b [.iface tx ux]) ∧ Below w.heap.size w w' := by
  go_enter Try.func44, Try.ntmps44
  go_wp2
  go_region
  all_goals (go_wp2; go_ret; exact ⟨rfl, (below_new4 _ _ _ _ _).drew⟩)
set_option maxHeartbeats 4000000 in
theorem with3 (a b : Int) (p : Option Addr) (n cap : Nat) (tx : Nat) (ux : Value) (w : World) :
    Calls Try.prog 44 #[exV 3 a b (.slice p n cap), .agg #[.iface tx ux, .nilIface]] w fun e w' => e = .returned (nodeV 3 a b [.iface tx ux]) ∧ Below w.heap.size w w' := by
  go_enter Try.func44, Try.ntmps44
  go_wp2
  go_region
  all_goals (go_wp2; go_ret; exact ⟨rfl, (below_new4 _ _ _ _ _).drew⟩)
set_option maxHeartbeats 4000000 in
theorem with5 (a b : Int) (p : Option Addr) (n cap : Nat) (tx : Nat) (ux : Value) (ty : Nat) (uy : Value) (w : World) :
    Calls Try.prog 44 #[exV 5 a b (.slice p n cap), .agg #[.iface tx ux, .iface ty uy]] w fun e w' => e = .returned (nodeV 5 a b [.iface tx ux, .iface ty uy]) ∧ Below w.heap.size w w' := by
  go_enter Try.func44, Try.ntmps44
  go_wp2
  go_region
  all_goals (go_wp2; go_ret; exact ⟨rfl, (below_new4 _ _ _ _ _).drew⟩)
set_option maxHeartbeats 4000000 in
theorem with6 (a b : Int) (p : Option Addr) (n cap : Nat) (tx : Nat) (ux : Value) (ty : Nat) (uy : Value) (w : World) :
    Calls Try.prog 44 #[exV 6 a b (.slice p n cap), .agg #[.iface tx ux, .iface ty uy]] w fun e w' => e = .returned (nodeV 6 a b [.iface tx ux, .iface ty uy]) ∧ Below w.heap.size w w' := by
  go_enter Try.func44, Try.ntmps44
  go_wp2
  go_region
  all_goals (go_wp2; go_ret; exact ⟨rfl, (below_new4 _ _ _ _ _).drew⟩)
set_option maxHeartbeats 4000000 in
theorem with7 (a b : Int) (p : Option Addr) (n cap : Nat) (tx : Nat) (ux : Value) (ty : Nat) (uy : Value) (w : World) :
    Calls Try.prog 44 #[exV 7 a b (.slice p n cap), .agg #[.iface tx ux, .iface ty uy]] w fun e w' => e = .returned (nodeV 7 a b [.iface tx ux, .iface ty uy]) ∧ Below w.heap.size w w' := by
  go_enter Try.func44, Try.ntmps44
  go_wp2
  go_region
  all_goals (go_wp2; go_ret; exact ⟨rfl, (below_new4 _ _ _ _ _).drew⟩)
set_option maxHeartbeats 4000000 in
theorem with8 (a b : Int) (p : Option Addr) (n cap : Nat) (tx : Nat) (ux : Value) (ty : Nat) (uy : Value) (w : World) :
    Calls Try.prog 44 #[exV 8 a b (.slice p n cap), .agg #[.iface tx ux, .iface ty uy]] w fun e w' => e = .returned (nodeV 8 a b [.iface tx ux, .iface ty uy]) ∧ Below w.heap.size w w' := by
  go_enter Try.func44, Try.ntmps44
  go_wp2
  go_region
  all_goals (go_wp2; go_ret; exact ⟨rfl, (below_new4 _ _ _ _ _).drew⟩)
/-- The Kids as they are kept: one behind the other, nil where there is none. -/
def padV : List Value → Value
  | [] => .agg #[.nilIface, .nilIface]
  | [x] => .agg #[x, .nilIface]
  | x :: y :: _ => .agg #[x, y]
theorem with_any (k a b : Int) (s : F) (p : Option Addr) (n cap : Nat) (hf : formB k a b s.len = true) (w : World) :
    Calls Try.prog 44 #[exV k a b (.slice p n cap), padV s.evV] w fun e w' => e = .returned (nodeV k a b s.evV) ∧ Below w.heap.size w w' := by
  rcases form_kinds hf with ⟨rfl, hn, _⟩ | ⟨rfl, hn, _⟩ | ⟨hk, hn, rfl, rfl⟩ | ⟨hk, hn, rfl, rfl⟩
  · obtain rfl := len0 hn
    exact with1 a b p n cap w
  · obtain rfl := len0 hn
    exact with4 a b p n cap w
  · obtain ⟨k1, a1, b1, t1, rfl⟩ := len1 hn
    rcases hk with rfl | rfl
    · exact with2 0 0 p n cap (kT k1) (inV k1 a1 b1 t1.evV) w
    · exact with3 0 0 p n cap (kT k1) (inV k1 a1 b1 t1.evV) w
  · obtain ⟨k1, a1, b1, t1, k2, a2, b2, t2, rfl⟩ := len2 hn
    rcases hk with rfl | rfl | rfl | rfl
    · exact with5 0 0 p n cap (kT k1) (inV k1 a1 b1 t1.evV) (kT k2) (inV k2 a2 b2 t2.evV) w
    · exact with6 0 0 p n cap (kT k1) (inV k1 a1 b1 t1.evV) (kT k2) (inV k2 a2 b2 t2.evV) w
    · exact with7 0 0 p n cap (kT k1) (inV k1 a1 b1 t1.evV) (kT k2) (inV k2 a2 b2 t2.evV) w
    · exact with8 0 0 p n cap (kT k1) (inV k1 a1 b1 t1.evV) (kT k2) (inV k2 a2 b2 t2.evV) w
end ER
end Go.Proofs.Ytlkompbigpbefab
