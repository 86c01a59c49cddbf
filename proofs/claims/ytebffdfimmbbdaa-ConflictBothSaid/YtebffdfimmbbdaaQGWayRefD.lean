/-
 The document's own functions of package way: asked, Outs.
 Conditions: none.
-/
import Derived.Test.YtebffdfimmbbdaaQWayRefC
set_option linter.unusedVariables false
set_option linter.unusedSimpArgs false
set_option maxRecDepth 100000
namespace Go.Proofs.Ytebffdfimmbbdaa
open Go.RowKit

noncomputable def askK (p : Pl) (id : Int) : Int := if planMay p = true ∧ 0 ≤ at1 kRt p.routes id ∧ hangsB p (routeN p id) = true then at1 kRt p.routes id else 0
theorem routeN_at {p : Pl} {id : Int} {k : Nat} (hk : k < p.routes.length) (h : at1 kRt p.routes id = (k : Int)) : routeN p id = p.routes[k] := by rw [routeN, h]; simp [List.getD, List.getElem?_eq_getElem hk]


theorem wayE_zero {p : Pl} {id : Int} (h : wayE p id = 0) : planMay p = true ∧ 0 ≤ at1 kRt p.routes id ∧ hangsB p (routeN p id) = true := by
 rw [wayE] at h
 split at h
 ·rename_i h1
  split at h
  ·cases h
  ·rename_i h2
   split at h
   ·rename_i h3
    exact ⟨h1, by omega, h3⟩
   ·cases h
 ·cases h
theorem askK_zero {p : Pl} {id : Int} (h : wayE p id = 0) : askK p id = at1 kRt p.routes id := by rw [askK, if_pos (wayE_zero h)]
theorem left_take {p : Pl} {r : Rt} {a : Nat} (h : 0 ≤ outA p r a) : leftL p r (a + 1) = leftL p r a ++ [((allR r).getD a 0, outA p r a)] := by rw [leftL_succ, leftN, if_pos h]; rfl
theorem left_skip {p : Pl} {r : Rt} {a : Nat} (h : ¬ 0 ≤ outA p r a) : leftL p r (a + 1) = leftL p r a := by rw [leftL_succ, leftN, if_neg h]; simp
theorem leftL_len (p : Pl) (r : Rt) (n : Nat) : (leftL p r n).length ≤ n := by
 rw [leftL]
 exact Nat.le_trans (List.length_filterMap_le _ _) (by simp)
theorem outsL_at (p : Pl) (r : Rt) {n a : Nat} (h : a < n) : (outsL p r n)[a]'(by rw [outsL_len]; exact h) = outA p r a := by simp [outsL]

end Go.Proofs.Ytebffdfimmbbdaa
