/-
  The program's package plan: comparisons, Same; all its contracts in one.
  Conditions: none.
-/
import Derived.Test.YtjgdgdccnbmbiaaVPlnP1
import Derived.Test.YtjgdgdccnbmbiaaVGPlnRefD
import Derived.Test.YtjgdgdccnbmbiaaVPlnP3
set_option linter.unusedVariables false
set_option linter.unusedSimpArgs false
set_option maxRecDepth 100000
namespace Go.Proofs.Ytjgdgdccnbmbiaa
open Go.RowKit

end Go.Proofs.Ytjgdgdccnbmbiaa

namespace Go.Proofs.Ytjgdgdccnbmbiaa
open Go.RowKit

theorem planSaid : PlanSaid where
  check := check_prog
  point := point_prog
  signal := signal_prog
  route := route_prog
  stands := stands_prog
end Go.Proofs.Ytjgdgdccnbmbiaa
