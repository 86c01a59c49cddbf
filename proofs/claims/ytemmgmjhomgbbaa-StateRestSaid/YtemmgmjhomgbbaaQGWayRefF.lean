/-
 The document's own function of package way: Of.
 Conditions: none.
-/
import Derived.Test.YtemmgmjhomgbbaaQGWayRefD
import Derived.Test.YtemmgmjhomgbbaaQGPlnRefD
import Derived.Test.YtemmgmjhomgbbaaQGWayM
import Derived.BigQuiet
set_option linter.unusedVariables false
set_option linter.unusedSimpArgs false
set_option maxRecDepth 100000
namespace Go.Proofs.Ytemmgmjhomgbbaa
open Go.RowKit

theorem wyOwn_zero (W : World) (lo : Nat) : WyOwn W lo (.slice none 0 0) (.slice none 0 0) (.slice none 0 0) zWy := ⟨ListOwn.nil_, ListOwn.nil_, ListOwn.nil_⟩


structure WaySaid : Prop where
 of : ∀ (v : Value) (p : Pl) (id : Int) (w : World), PlanV w w.heap.size v p →
  Calls Try.prog 22 #[v, .int .i64 id] w fun e w' => ∃ u0 u1 u2, e = .returned (.tuple #[.agg #[u0, u1, u2, .int .i64 (wayV p id).near], .int .i64 (wayE p id)]) ∧ WyOwn w' w.heap.size u0 u1 u2 (wayV p id) ∧ Below w.heap.size w w'
end Go.Proofs.Ytemmgmjhomgbbaa
