/-
 What became of a plan's elements: how many there are; plans of which nothing became another one are one but for their versions.
 Conditions: none.
-/
import Derived.Test.YtneeocnjfnneoaaQGPlnRefD
import Derived.Test.YtneeocnjfnneoaaQGPlnRefC
set_option linter.unusedVariables false
set_option linter.unusedSimpArgs false
set_option maxRecDepth 100000
namespace Go.Proofs.Ytneeocnjfnneoaa
open Go.RowKit

/-- A plan's lists rise. -/
structure Rising (p : Pl) : Prop where
 secs : p.secs.Pairwise (fun x y => x.1 < y.1)
 pts : p.pts.Pairwise (fun x y => x.1 < y.1)
 sigs : p.sigs.Pairwise (fun x y => x.1 < y.1)
 routes : p.routes.Pairwise (fun x y => x.id < y.id)
end Go.Proofs.Ytneeocnjfnneoaa
