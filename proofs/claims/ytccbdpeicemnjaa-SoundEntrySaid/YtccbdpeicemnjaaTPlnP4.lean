/-
 The program's package plan: comparisons, Same; all its contracts in one.
 Conditions: none.
-/
import Derived.Test.YtccbdpeicemnjaaTPlnP1
import Derived.Test.YtccbdpeicemnjaaTGPlnRefD
import Derived.Test.YtccbdpeicemnjaaTPlnP3
set_option linter.unusedVariables false
set_option linter.unusedSimpArgs false
set_option maxRecDepth 100000
namespace Go.Proofs.Ytccbdpeicemnjaa
open Go.RowKit

end Go.Proofs.Ytccbdpeicemnjaa

namespace Go.Proofs.Ytccbdpeicemnjaa
open Go.RowKit

theorem planSaid : PlanSaid where
 check := check_prog
 signal := signal_prog
 route := route_prog
 stands := stands_prog
end Go.Proofs.Ytccbdpeicemnjaa
