/-
 The document's own function May of package plan.
 Conditions: none.
-/
import Derived.Test.YtneeocnjfnneoaaQPlnRefF
set_option linter.unusedVariables false
set_option linter.unusedSimpArgs false
set_option maxRecDepth 100000
namespace Go.Proofs.Ytneeocnjfnneoaa
open Go.RowKit
/-- A plan may be. -/
structure PlanMay (p : Pl) : Prop where
 ver : 1 ≤ p.ver ∧ p.ver ≤ 2147483647
 par : 0 ≤ p.par ∧ p.par < p.ver
 n : p.routes.length ≤ 16
 secs : TMay p.secs
 pts : PtsMay p
 sigs : SigsMay p
 each : ∀ i (h : i < p.routes.length), (1 ≤ p.routes[i].id ∧ p.routes[i].id ≤ 99) ∧ (∀ j (hj : j + 1 = i), (p.routes[j]'(Nat.lt_trans (Nat.lt_of_succ_le (Nat.le_of_eq hj)) h)).id < p.routes[i].id) ∧ RouteMay p p.routes[i]

abbrev kPt : Jn → Int := fun x => x.1
abbrev kSg : Sg → Int := fun x => x.1
abbrev kRt : Rt → Int := fun x => x.id
end Go.Proofs.Ytneeocnjfnneoaa
