/-
 All contracts of the program's package plan in one.
 Conditions: none.
-/
import Derived.Test.YteloiajocjahmaaDoorSGPlnRefD
import Derived.Test.YteloiajocjahmaaDoorSPlnPB
import Derived.Test.YteloiajocjahmaaDoorSPlnPC
import Derived.Test.YteloiajocjahmaaDoorSPlnPD
import Derived.Test.YteloiajocjahmaaDoorSGTrkPH
import Derived.Test.YteloiajocjahmaaDoorSPlnPG
set_option linter.unusedVariables false
set_option linter.unusedSimpArgs false
set_option maxRecDepth 100000
namespace Go.Proofs.YteloiajocjahmaaDoor
open Go.RowKit

theorem planSaid : PlanSaid where
 check := check_prog
end Go.Proofs.YteloiajocjahmaaDoor
