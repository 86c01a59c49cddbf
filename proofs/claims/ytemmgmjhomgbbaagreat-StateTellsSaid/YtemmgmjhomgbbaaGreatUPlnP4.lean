/-
 The program's package plan: comparisons, Same; all its contracts in one.
 Conditions: none.
-/
import Derived.Test.YtemmgmjhomgbbaaGreatUPlnP1
import Derived.Test.YtemmgmjhomgbbaaGreatUGPlnRefD
import Derived.Test.YtemmgmjhomgbbaaGreatUPlnP3
set_option linter.unusedVariables false
set_option linter.unusedSimpArgs false
set_option maxRecDepth 100000
namespace Go.Proofs.YtemmgmjhomgbbaaGreat
open Go.RowKit
theorem planSaid:PlanSaid where
 check:=check_prog
end Go.Proofs.YtemmgmjhomgbbaaGreat
