/-
  Rows of the call's own whose cells may be changed: what is kept of them is their shape.
  Conditions: none.
-/
import Derived.Test.YthlolpflgninjaaPlnOwn
set_option linter.unusedVariables false
set_option linter.unusedSimpArgs false
set_option maxRecDepth 100000
namespace Go.Proofs.Ythlolpflgninjaa
open Go.RowKit

/-- The first numbers of a row of the call's own, whatever they are. -/
def IntRow (W : World) (lo m : Nat) (A : Option Addr) : Prop := m = 0 ∨ ∃ (g : Nat) (cur : Array Value), A = some ⟨g, 0, none⟩ ∧ lo ≤ g ∧ W.heap[g]? = some (.cells cur 3 (0, 0)) ∧ ∀ j, j < m → ∃ z : Int, cur[j]? = some (.int .i64 z)
theorem intRow_of {W : World} {lo m c : Nat} {A : Option Addr} {l : List Int} (h : IntsOwn W lo (.slice A m c) l) (hl : l.length = m) : IntRow W lo m A := by
  subst hl
  obtain ⟨yss, ho, h1, hm, hs, ht⟩ := h
  have ho' := ho
  rcases ho.2 with ⟨e, h0⟩ | ⟨g, cap, cur, e, hlo, hc, _⟩
  · exact .inl h0
  · cases e
    refine .inr ⟨g, cur, rfl, hlo, hc, fun j hj => ?_⟩
    have hx : l[j]? = some l[j] := List.getElem?_eq_getElem hj
    have hy : yss[j]? = some (yss[j]'(by omega)) := List.getElem?_eq_getElem (by omega)
    refine ⟨l[j], ?_⟩
    have h2 := ho'.cellAt (j * 1 + 0) (by omega)
    have h3 : (yss[j]'(by omega))[0]? = some (.int .i64 l[j]) := ht j _ _ hy hx
    rw [flat_at yss j 0 _ hs hy (by omega), h3, cell_of_row _ _ _ _ _ _ hc] at h2
    simpa using h2
theorem intRow_set {W : World} {lo m g i : Nat} {cur : Array Value} (hlo : lo ≤ g) (h : W.heap[g]? = some (.cells cur 3 (0, 0))) (hc : ∀ j, j < m → ∃ z : Int, cur[j]? = some (.int .i64 z)) (x : Int) : IntRow (W.setCell ⟨g, i, none⟩ (.int .i64 x)) lo m (some ⟨g, 0, none⟩) := by
  refine .inr ⟨g, _, rfl, hlo, heap_setK h _, fun j hj => ?_⟩
  obtain ⟨z, hz⟩ := hc j hj
  have hlt : j < cur.size := (Array.getElem?_eq_some_iff.1 hz).1
  by_cases he : i = j
  · exact ⟨x, by rw [he, Array.getElem?_setIfInBounds_self_of_lt hlt]⟩
  · exact ⟨z, by rw [Array.getElem?_setIfInBounds_ne he]; exact hz⟩
end Go.Proofs.Ythlolpflgninjaa
