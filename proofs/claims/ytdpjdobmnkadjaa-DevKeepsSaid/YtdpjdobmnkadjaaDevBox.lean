/-
  A box that holds a disk of the call's own.
  Conditions: none.
-/
import Derived.Test.YtdpjdobmnkadjaaDevClone
set_option linter.unusedVariables false
set_option linter.unusedSimpArgs false
namespace Go.Proofs.Ytdpjdobmnkadjaa
open Go.RowKit

/-- A box that holds a disk of the call's own. -/
def BoxD (W : World) (p lo : Nat) (ss : List Bs) (ws : List Wr) : Prop := ∃ x1 x2, W.heap[p]? = some (.cells #[x1, x2] 25 (0, 0)) ∧ SecsAt W lo x1 ss ∧ WtsAt W lo x2 ws
theorem BoxD.below {W W' : World} {p lo : Nat} {ss : List Bs} {ws : List Wr} (h : BoxD W p lo ss ws) (b : Below W.heap.size W W') : BoxD W' p lo ss ws := by
  obtain ⟨x1, x2, h1, h2, h3⟩ := h
  exact ⟨x1, x2, (b.block _ (heap_lt h1)).trans h1, h2.below b, h3.below b⟩
end Go.Proofs.Ytdpjdobmnkadjaa
