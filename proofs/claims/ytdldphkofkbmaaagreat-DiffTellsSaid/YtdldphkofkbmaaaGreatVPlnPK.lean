/-
 The program's package plan: Route, Stands.
 Conditions: none.
-/
import Derived.Test.YtdldphkofkbmaaaGreatVPlnPH
import Derived.Test.YtdldphkofkbmaaaGreatVPlnPG
set_option linter.unusedVariables false
set_option linter.unusedSimpArgs false
set_option maxRecDepth 100000
namespace Go.Proofs.YtdldphkofkbmaaaGreat
open Go.RowKit

theorem elV_few (p : Pl) (id : Int) : (elV p kRt p.routes id zRt).path.length ≤ 1000 ∧ (elV p kRt p.routes id zRt).over.length ≤ 1000 ∧ (elV p kRt p.routes id zRt).flanks.length ≤ 1000 := by
 cases hm : planMay p with
 | false => rw [(elE_bad (k := kRt) (l := p.routes) (id := id) (z := zRt) hm).2]; exact ⟨Nat.zero_le _, Nat.zero_le _, Nat.zero_le _⟩
 | true =>
  rcases at1_cases kRt p.routes id with ⟨h1, -⟩ | ⟨i, hi, h1, -, -⟩
  ·rw [(elE_none (k := kRt) (l := p.routes) (id := id) (z := zRt) hm (by omega)).2]; exact ⟨Nat.zero_le _, Nat.zero_le _, Nat.zero_le _⟩
  ·rw [(elE_some (z := zRt) hm hi h1).2]
   have h := ((planMay_iff.1 hm).each i hi).2.2
   have a := h.path.2
   have b := h.over
   have c := h.flank
   exact ⟨by omega, by omega, by omega⟩
end Go.Proofs.YtdldphkofkbmaaaGreat
