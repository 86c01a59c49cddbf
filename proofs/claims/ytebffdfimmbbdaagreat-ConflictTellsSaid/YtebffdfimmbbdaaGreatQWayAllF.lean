/-
 All ways of a plan: what both functions use.
 Conditions: none.
-/
import Derived.Test.YtebffdfimmbbdaaGreatQGWayAllM
set_option linter.unusedVariables false
set_option linter.unusedSimpArgs false
set_option maxRecDepth 100000
namespace Go.Proofs.YtebffdfimmbbdaaGreat
open Go.RowKit

theorem infoWayF : (Tryz.prog.info? 56).map (fun i => (i.zero, i.size, i.bytes)) = some (some (.agg #[.slice none 0 0, .slice none 0 0, .slice none 0 0, .int .i64 0]), 4, 80) := by kernel_rfl
theorem infoJsF : (Tryz.prog.info? 48).map (fun i => (i.zero, i.size, i.bytes)) = some (some (.slice none 0 0), 1, 24) := by kernel_rfl
theorem WyOwn.offT {W W' : World} {lo k : Nat} {T : TypeId} {u0 u1 u2 : Value} {x : Wy} (h : WyOwn W lo u0 u1 u2 x) (hg : W.grownBy W' (some k)) (hT1 : T ≠ 3) (hT2 : T ≠ 84) (hk : ∃ cur, W.heap[k]? = some (.cells cur T (0, 0))) : WyOwn W' lo u0 u1 u2 x := by
 obtain ⟨cur, hc⟩ := hk
 refine ⟨own_kept intF h.path hg fun k' h1 e => ?_, own_kept intF h.over hg fun k' h1 e => ?_, own_kept sigF h.asks hg fun k' h1 e => ?_⟩
 ·subst e
  obtain ⟨cur', hc', -⟩ := own_block h.path h1
  rw [hc] at hc'
  injection hc' with hc'
  injection hc' with _ e
  exact hT1 e
 ·subst e
  obtain ⟨cur', hc', -⟩ := own_block h.over h1
  rw [hc] at hc'
  injection hc' with hc'
  injection hc' with _ e
  exact hT1 e
 ·subst e
  obtain ⟨cur', hc', -⟩ := own_block h.asks h1
  rw [hc] at hc'
  injection hc' with hc'
  injection hc' with _ e
  exact hT2 e
theorem take_map {α β : Type} (f : α → β) (l : List α) {i : Nat} (h : i < l.length) : (l.map f).take (i + 1) = (l.map f).take i ++ [f l[i]] := by
 rw [List.take_add_one, List.getElem?_map, List.getElem?_eq_getElem h]; rfl

end Go.Proofs.YtebffdfimmbbdaaGreat
