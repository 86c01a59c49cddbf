/-
 All contracts of the program's package plan in one.
 Conditions: none.
-/
import Derived.Test.YtdldphkofkbmaaaQGPlnRefD
import Derived.Test.YtdldphkofkbmaaaQPlnPH
import Derived.Test.YtdldphkofkbmaaaQPlnPG
import Derived.Test.YtdldphkofkbmaaaQPlnPK
import Derived.Test.YtdldphkofkbmaaaQPlnPL
set_option linter.unusedVariables false
set_option linter.unusedSimpArgs false
set_option maxRecDepth 100000
namespace Go.Proofs.Ytdldphkofkbmaaa
open Go.RowKit

theorem planSaid : PlanSaid where
 check := check_prog
 same := same_prog
end Go.Proofs.Ytdldphkofkbmaaa
