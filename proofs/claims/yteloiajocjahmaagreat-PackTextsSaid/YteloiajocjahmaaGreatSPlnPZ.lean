/-
 All contracts of the program's package plan in one.
 Conditions: none.
-/
import Derived.Test.YteloiajocjahmaaGreatSGPlnRefD
import Derived.Test.YteloiajocjahmaaGreatSPlnPB
import Derived.Test.YteloiajocjahmaaGreatSPlnPC
import Derived.Test.YteloiajocjahmaaGreatSPlnPD
import Derived.Test.YteloiajocjahmaaGreatSGTrkPH
import Derived.Test.YteloiajocjahmaaGreatSPlnPG
set_option linter.unusedVariables false
set_option linter.unusedSimpArgs false
set_option maxRecDepth 100000
namespace Go.Proofs.YteloiajocjahmaaGreat
open Go.RowKit

theorem planSaid : PlanSaid where
 check := check_prog
end Go.Proofs.YteloiajocjahmaaGreat
