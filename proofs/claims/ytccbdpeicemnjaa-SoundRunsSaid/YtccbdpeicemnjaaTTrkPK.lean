/-
 All contracts of the program's package track in one.
 Conditions: none.
-/
import Derived.Test.YtccbdpeicemnjaaTGTrkPH
import Derived.Test.YtccbdpeicemnjaaTTrkPF
set_option linter.unusedVariables false
namespace Go.Proofs.Ytccbdpeicemnjaa
theorem trkSaid : TrkSaid := ⟨pcheck_any, pfind_any, pnext_any, pthrough_any, pout_any⟩
end Go.Proofs.Ytccbdpeicemnjaa
