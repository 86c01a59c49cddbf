/-
  All contracts of the program's package track in one.
  Conditions: none.
-/
import Derived.Test.YtjgdgdccnbmbiaaYGTrkPH
import Derived.Test.YtjgdgdccnbmbiaaYTrkPF
set_option linter.unusedVariables false
namespace Go.Proofs.Ytjgdgdccnbmbiaa
theorem trkSaid : TrkSaid := ⟨pcheck_any, pfind_any, pnext_any, pthrough_any, pout_any⟩
end Go.Proofs.Ytjgdgdccnbmbiaa
