/-
 The document's own function of package way: Of.
 Conditions: none.
-/
import Derived.Test.YtemmgmjhomgbbaaGreatVWayRefC
import Derived.Test.YtemmgmjhomgbbaaGreatVGPlnRefD
import Derived.Test.YtemmgmjhomgbbaaGreatVGWayM
import Derived.BigQuiet
set_option linter.unusedVariables false
set_option linter.unusedSimpArgs false
set_option maxRecDepth 100000
namespace Go.Proofs.YtemmgmjhomgbbaaGreat
open Go.RowKit

theorem wyOwn_zero (W : World) (lo : Nat) : WyOwn W lo (.slice none 0 0) (.slice none 0 0) (.slice none 0 0) zWy := ⟨ListOwn.nil_, ListOwn.nil_, ListOwn.nil_⟩


structure WaySaid : Prop where
end Go.Proofs.YtemmgmjhomgbbaaGreat
