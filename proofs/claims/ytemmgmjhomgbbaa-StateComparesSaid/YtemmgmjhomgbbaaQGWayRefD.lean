/-
 The document's own functions of package way: asked, Outs.
 Conditions: none.
-/
import Derived.Test.YtemmgmjhomgbbaaQWayRefC
set_option linter.unusedVariables false
set_option linter.unusedSimpArgs false
set_option maxRecDepth 100000
namespace Go.Proofs.Ytemmgmjhomgbbaa
open Go.RowKit

theorem routeN_at {p : Pl} {id : Int} {k : Nat} (hk : k < p.routes.length) (h : at1 kRt p.routes id = (k : Int)) : routeN p id = p.routes[k] := by rw [routeN, h]; simp [List.getD, List.getElem?_eq_getElem hk]

end Go.Proofs.Ytemmgmjhomgbbaa
