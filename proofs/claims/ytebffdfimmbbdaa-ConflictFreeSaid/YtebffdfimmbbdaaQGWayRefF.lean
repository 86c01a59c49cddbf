/-
 The document's own function of package way: Made.
 Conditions: none.
-/
import Derived.Test.YtebffdfimmbbdaaQGWayRefD
import Derived.Test.YtebffdfimmbbdaaQGPlnRefD
set_option linter.unusedVariables false
set_option linter.unusedSimpArgs false
set_option maxRecDepth 100000
namespace Go.Proofs.Ytebffdfimmbbdaa
open Go.RowKit

/-- A way in a box. -/
def WyBox (W : World) (pz : Nat) (row : Array Value) : Prop := W.heap[pz]? = some (.cells row 47 (0, 0))
theorem cell7_of' {w : World} {b : Nat} {v0 v1 v2 v3 v4 v5 v6 : Value} {t : TypeId} {fr : Nat × Nat} (h : w.heap[b]? = some (.cells #[v0, v1, v2, v3, v4, v5, v6] t fr)) : w.cell? ⟨b, 0, none⟩ = some v0 ∧ w.cell? ⟨b, 1, none⟩ = some v1 ∧ w.cell? ⟨b, 2, none⟩ = some v2 ∧ w.cell? ⟨b, 3, none⟩ = some v3 ∧ w.cell? ⟨b, 4, none⟩ = some v4 ∧ w.cell? ⟨b, 5, none⟩ = some v5 ∧ w.cell? ⟨b, 6, none⟩ = some v6 := cell7_of h


theorem wyOwn_zero (W : World) (lo : Nat) : WyOwn W lo (.slice none 0 0) (.slice none 0 0) (.slice none 0 0) zWy := ⟨ListOwn.nil_, ListOwn.nil_, ListOwn.nil_⟩

end Go.Proofs.Ytebffdfimmbbdaa
