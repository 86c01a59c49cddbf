/-
  The document's own functions of package way: asked, Outs.
  Conditions: none.
-/
import Derived.Test.YtjgdgdccnbmbiaaYWayRefC
set_option linter.unusedVariables false
set_option linter.unusedSimpArgs false
set_option maxRecDepth 100000
namespace Go.Proofs.Ytjgdgdccnbmbiaa
open Go.RowKit

theorem routeN_at {p : Pl} {id : Int} {k : Nat} (hk : k < p.routes.length) (h : at1 kRt p.routes id = (k : Int)) : routeN p id = p.routes[k] := by rw [routeN, h]; simp [List.getD, List.getElem?_eq_getElem hk]

end Go.Proofs.Ytjgdgdccnbmbiaa

/-
  The document's own function of package way: Outs.
  Conditions: none.
-/
set_option linter.unusedVariables false
set_option linter.unusedSimpArgs false
set_option maxRecDepth 100000
namespace Go.Proofs.Ytjgdgdccnbmbiaa
open Go.RowKit

theorem wayE_zero {p : Pl} {id : Int} (h : wayE p id = 0) : planMay p = true ∧ 0 ≤ at1 kRt p.routes id ∧ hangsB p (routeN p id) = true := by
  rw [wayE] at h
  split at h
  · rename_i h1
    split at h
    · cases h
    · rename_i h2
      split at h
      · rename_i h3
        exact ⟨h1, by omega, h3⟩
      · cases h
  · cases h
theorem leftL_len (p : Pl) (r : Rt) (n : Nat) : (leftL p r n).length ≤ n := by
  rw [leftL]
  exact Nat.le_trans (List.length_filterMap_le _ _) (by simp)
end Go.Proofs.Ytjgdgdccnbmbiaa
