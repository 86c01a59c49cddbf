/-
 All contracts of the program's package plan in one.
 Conditions: none.
-/
import Derived.Test.YteloiajocjahmaaGreatDoorSGPlnRefD
import Derived.Test.YteloiajocjahmaaGreatDoorSPlnPB
import Derived.Test.YteloiajocjahmaaGreatDoorSGPlnPC
import Derived.Test.YteloiajocjahmaaGreatDoorSGTrkPH
import Derived.Test.YteloiajocjahmaaGreatDoorSPlnPG
set_option linter.unusedVariables false
set_option linter.unusedSimpArgs false
set_option maxRecDepth 100000
namespace Go.Proofs.YteloiajocjahmaaGreatDoor
open Go.RowKit

theorem planSaid : PlanSaid where
 check := check_prog
end Go.Proofs.YteloiajocjahmaaGreatDoor
