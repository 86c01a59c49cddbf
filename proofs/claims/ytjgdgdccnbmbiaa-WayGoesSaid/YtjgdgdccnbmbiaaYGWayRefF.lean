/-
  The document's own function of package way: Of.
  Conditions: none.
-/
import Derived.Test.YtjgdgdccnbmbiaaYGWayRefD
import Derived.Test.YtjgdgdccnbmbiaaYGPlnRefD
set_option linter.unusedVariables false
set_option linter.unusedSimpArgs false
set_option maxRecDepth 100000
namespace Go.Proofs.Ytjgdgdccnbmbiaa
open Go.RowKit

theorem wyOwn_zero (W : World) (lo : Nat) : WyOwn W lo (.slice none 0 0) (.slice none 0 0) (.slice none 0 0) zWy := ⟨ListOwn.nil_, ListOwn.nil_, ListOwn.nil_⟩

end Go.Proofs.Ytjgdgdccnbmbiaa
