/-
 The program's package area: its contracts on areas alone.
 Conditions: none.
-/
import Derived.Test.YtneeocnjfnneoaaQAreGE
set_option linter.unusedVariables false
set_option linter.unusedSimpArgs false
set_option maxRecDepth 100000
namespace Go.Proofs.Ytneeocnjfnneoaa
open Go.RowKit

theorem areaHasSaid : AreaSaid where
 has v x kind id w h hk hk2 := phas14_any v x kind id w h hk hk2
 same v y x z w h h' := psame14_any v y x z w h h'
end Go.Proofs.Ytneeocnjfnneoaa
