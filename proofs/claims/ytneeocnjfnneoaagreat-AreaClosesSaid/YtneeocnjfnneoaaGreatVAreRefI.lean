/-
 The document's own package area: Asked, Great.
 Conditions: none.
-/
import Derived.Test.YtneeocnjfnneoaaGreatVAreRefG
set_option linter.unusedVariables false
set_option linter.unusedSimpArgs false
set_option maxRecDepth 100000
namespace Go.Proofs.YtneeocnjfnneoaaGreat
open Go.RowKit

theorem ints_sl {W : World} {B : Nat} {v : Value} {l : List Int} (h : IntsIn W B v l) : ∃ A n c, v = .slice A n c := by
 obtain ⟨A, c, e, -, -⟩ := h.slice
 exact ⟨A, _, c, e⟩
end Go.Proofs.YtneeocnjfnneoaaGreat
