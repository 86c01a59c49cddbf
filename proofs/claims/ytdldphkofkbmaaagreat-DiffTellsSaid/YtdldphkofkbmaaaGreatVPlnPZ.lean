/-
 All contracts of the program's package plan in one.
 Conditions: none.
-/
import Derived.Test.YtdldphkofkbmaaaGreatVGPlnRefD
import Derived.Test.YtdldphkofkbmaaaGreatVPlnPH
import Derived.Test.YtdldphkofkbmaaaGreatVPlnPG
import Derived.Test.YtdldphkofkbmaaaGreatVPlnPK
import Derived.Test.YtdldphkofkbmaaaGreatVPlnPL
set_option linter.unusedVariables false
set_option linter.unusedSimpArgs false
set_option maxRecDepth 100000
namespace Go.Proofs.YtdldphkofkbmaaaGreat
open Go.RowKit

theorem planSaid : PlanSaid where
 check := check_prog
 same := same_prog
end Go.Proofs.YtdldphkofkbmaaaGreat
