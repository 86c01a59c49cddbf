/-
  What the program's package way answers: its contracts, of whatever text it has (All is not among them yet).
  Conditions: none.
-/
import Derived.Test.YtjgdgdccnbmbiaaVGWayRefF
import Derived.Test.YtjgdgdccnbmbiaaVGWayM
set_option linter.unusedVariables false
namespace Go.Proofs.Ytjgdgdccnbmbiaa
open Go.RowKit

structure WaySaid : Prop where
  of : ∀ (v : Value) (p : Pl) (id : Int) (w : World), PlanV w w.heap.size v p →
    Calls Try.prog 11 #[v, .int .i64 id] w fun e w' => ∃ u0 u1 u2, e = .returned (.tuple #[.agg #[u0, u1, u2, .int .i64 (wayV p id).near], .int .i64 (wayE p id)]) ∧ WyOwn w' w.heap.size u0 u1 u2 (wayV p id) ∧ Below w.heap.size w w'
  outs : ∀ (v : Value) (p : Pl) (id : Int) (w : World), PlanV w w.heap.size v p →
    Calls Try.prog 9 #[v, .int .i64 id] w fun e w' => ∃ u, e = .returned (.tuple #[u, .int .i64 (wayE p id)]) ∧ JoinsOwn w' w.heap.size u (leftV p id) ∧ Below w.heap.size w w'
  same : ∀ (v z : Value) (x y : Wy) (w : World), WayV w w.heap.size v x → WayV w w.heap.size z y →
    Calls Try.prog 19 #[v, z] w fun e w' => e = .returned (.bool (eqB x y)) ∧ Below w.heap.size w w'
end Go.Proofs.Ytjgdgdccnbmbiaa
