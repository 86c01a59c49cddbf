/-
 The document's own functions Same, SameAll of package track and SameRoute, Same of package plan, for any two.
 Conditions: none.
-/
import Derived.Test.YtneeocnjfnneoaaQGPlnRefA
import Derived.BigQuiet
import Derived.Deep.RegionHeld3
set_option linter.unusedVariables false
set_option linter.unusedSimpArgs false
set_option maxRecDepth 100000
namespace Go.Proofs.Ytneeocnjfnneoaa
open Go.RowKit

noncomputable def eqB {α : Type} (a b : α) : Bool := @decide (a = b) (Classical.propDecidable _)
theorem eqB_true {α : Type} {a b : α} (h : a = b) : eqB a b = true := by rw [eqB]; exact @decide_eq_true _ (Classical.propDecidable _) h
theorem eqB_false {α : Type} {a b : α} (h : ¬ a = b) : eqB a b = false := by rw [eqB]; exact @decide_eq_false _ (Classical.propDecidable _) h
theorem eqB_iff {α : Type} {a b : α} : eqB a b = true ↔ a = b := by rw [eqB]; exact @decide_eq_true_iff _ (Classical.propDecidable _)
theorem list_ext {α : Type} {l m : List α} (hn : l.length = m.length) (h : ∀ j (h1 : j < l.length) (h2 : j < m.length), l[j] = m[j]) : l = m := List.ext_getElem hn h
theorem getElem_congr' {α : Type} {l m : List α} {i : Nat} {h1 : i < l.length} {h2 : i < m.length} (h : l = m) : l[i] = m[i] := by subst h; rfl
structure C3 (w : World) (b : Nat) (v0 v1 v2 : Value) : Prop where
 c0 : w.cell? ⟨b, 0, none⟩ = some v0
end Go.Proofs.Ytneeocnjfnneoaa
