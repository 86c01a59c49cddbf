/-
 The program's package plan: comparisons, Same; all its contracts in one.
 Conditions: none.
-/
import Derived.Test.YtemmgmjhomgbbaaQPlnP1
import Derived.Test.YtemmgmjhomgbbaaQGPlnRefD
import Derived.Test.YtemmgmjhomgbbaaQPlnP3
set_option linter.unusedVariables false
set_option linter.unusedSimpArgs false
set_option maxRecDepth 100000
namespace Go.Proofs.Ytemmgmjhomgbbaa
open Go.RowKit


theorem planSaid : PlanSaid where
 check := check_prog
 route := route_prog
end Go.Proofs.Ytemmgmjhomgbbaa
