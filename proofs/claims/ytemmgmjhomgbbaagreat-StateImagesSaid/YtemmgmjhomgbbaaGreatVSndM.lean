/-
 Plans that may run: the mathematics.
 Conditions: none.
-/
import Derived.Test.YtemmgmjhomgbbaaGreatVGWayRefF
set_option linter.unusedVariables false
set_option linter.unusedSimpArgs false
namespace Go.Proofs.YtemmgmjhomgbbaaGreat
open Go.RowKit

/-- No point is asked twice. -/
def OnceA (l : List Ak) : Prop := ∀ i (hi : i < l.length) k (hk : k < i), (l[k]'(by omega)).1 ≠ l[i].1
/-- What stands at the outs of the path's sections: nothing, but the exit at the last one's. -/
def StandsR (p : Pl) (r : Rt) : Prop := ∀ i (hi : i < r.path.length), (i + 1 < r.path.length → standsS p.sigs r.path[i] (outA p r i) = 0) ∧ (i + 1 = r.path.length → standsS p.sigs r.path[i] (outA p r i) = r.exit)
structure Sound (p : Pl) (r : Rt) : Prop where
 hangs : Hangs p r
 once : OnceA (wayR p r).asks
 stands : StandsR p r
/-- A plan that may run. -/
structure PlanSound (p : Pl) : Prop where
 may : PlanMay p
 each : ∀ k (hk : k < p.routes.length), Sound p p.routes[k]
noncomputable def soundP (p : Pl) : Bool := @decide (PlanSound p) (Classical.propDecidable _)
theorem soundP_true {p : Pl} (h : PlanSound p) : soundP p = true := by rw [soundP]; exact @decide_eq_true _ (Classical.propDecidable _) h
theorem soundP_false {p : Pl} (h : ¬ PlanSound p) : soundP p = false := by rw [soundP]; exact @decide_eq_false _ (Classical.propDecidable _) h
/-- What Check answers, and Route. -/
noncomputable def sndE (p : Pl) : Int := if soundP p then 0 else 100
theorem sndE_zero {p : Pl} : sndE p = 0 ↔ PlanSound p := by
 rw [sndE]
 by_cases h : PlanSound p
 ·rw [soundP_true h, if_pos rfl]; exact ⟨fun _ => h, fun _ => rfl⟩
 ·rw [soundP_false h]; simp [h]
theorem sndE_cases (p : Pl) : (sndE p = 0 ∧ PlanSound p) ∨ (sndE p = 100 ∧ ¬ PlanSound p) := by
 by_cases h : PlanSound p
 ·exact .inl ⟨sndE_zero.2 h, h⟩
 ·exact .inr ⟨by rw [sndE, soundP_false h]; rfl, h⟩
/-- One that isn't once asked, seen at a place. -/
theorem once_not {l : List Ak} {i k : Nat} (hi : i < l.length) (hk : k < i) (h : (l[k]'(by omega)).1 = l[i].1) : ¬ OnceA l := fun ho => ho i hi k hk h
end Go.Proofs.YtemmgmjhomgbbaaGreat
