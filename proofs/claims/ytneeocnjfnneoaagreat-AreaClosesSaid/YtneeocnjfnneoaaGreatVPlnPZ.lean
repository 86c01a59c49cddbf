/-
 All contracts of the program's package plan in one.
 Conditions: none.
-/
import Derived.Test.YtneeocnjfnneoaaGreatVGPlnRefD
import Derived.Test.YtneeocnjfnneoaaGreatVPlnPI
import Derived.Test.YtneeocnjfnneoaaGreatVPlnPK
import Derived.Test.YtneeocnjfnneoaaGreatVPlnPL
set_option linter.unusedVariables false
set_option linter.unusedSimpArgs false
set_option maxRecDepth 100000
namespace Go.Proofs.YtneeocnjfnneoaaGreat
open Go.RowKit

theorem planSaid : PlanSaid where
 check := check_prog
 point := point_prog
 route := route_prog
 same := same_prog
end Go.Proofs.YtneeocnjfnneoaaGreat
