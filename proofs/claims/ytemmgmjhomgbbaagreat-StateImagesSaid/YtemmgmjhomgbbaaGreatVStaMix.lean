/-
 Lists turned one element after the other; calls laid one by one; elements of a state of one's own set.
 Conditions: none.
-/
import Derived.Test.YtemmgmjhomgbbaaGreatVGStaMem
import Derived.Test.YtemmgmjhomgbbaaGreatVGStaO
import Derived.Test.YtemmgmjhomgbbaaGreatVGWayM
set_option linter.unusedVariables false
set_option linter.unusedSimpArgs false
set_option maxRecDepth 100000
namespace Go.Proofs.YtemmgmjhomgbbaaGreat
open Go.RowKit

def mixT {α : Type} (l m : List α) (i : Nat) : List α := m.take i ++ l.drop i
theorem mixT_zero {α : Type} (l m : List α) : mixT l m 0 = l := by simp [mixT]
theorem mixT_all {α : Type} {l m : List α} (h : l.length = m.length) {i : Nat} (hi : i = m.length) : mixT l m i = m := by subst hi; rw [mixT, List.take_length, ← h, List.drop_length, List.append_nil]
theorem mixT_len {α : Type} {l m : List α} (h : l.length = m.length) {i : Nat} (hi : i ≤ m.length) : (mixT l m i).length = m.length := by simp [mixT]; omega
theorem mixT_at {α : Type} {l m : List α} (h : l.length = m.length) {i : Nat} (hi : i < m.length) : (mixT l m i)[i]'(by rw [mixT_len h (by omega)]; exact hi) = l[i]'(by omega) := by
 unfold mixT
 rw [List.getElem_append_right (by simp; omega)]
 simp only [List.getElem_drop]
 congr 1
 simp only [List.length_take]
 omega
theorem mixT_set {α : Type} {l m : List α} (h : l.length = m.length) {i : Nat} (hi : i < m.length) : (mixT l m i).set i m[i] = mixT l m (i + 1) := by
 refine List.ext_getElem? fun j => ?_
 rw [List.getElem?_set]
 unfold mixT
 by_cases e : i = j
 ·subst e
  rw [if_pos rfl, if_pos (by simp; omega), List.getElem?_append_left (by simp; omega), List.getElem?_take_of_lt (by omega), List.getElem?_eq_getElem hi]
 ·rw [if_neg e]
  rcases Nat.lt_or_ge j i with h1 | h1
  ·rw [List.getElem?_append_left (by simp; omega), List.getElem?_append_left (by simp; omega), List.getElem?_take_of_lt h1, List.getElem?_take_of_lt (by omega)]
  ·rw [List.getElem?_append_right (by simp; omega), List.getElem?_append_right (by simp; omega), List.getElem?_drop, List.getElem?_drop]
   simp only [List.length_take]
   congr 1
   omega
theorem mixT_skip {α : Type} {l m : List α} (h : l.length = m.length) {i : Nat} (hi : i < m.length) (e : m[i] = l[i]'(by omega)) : mixT l m (i + 1) = mixT l m i := by
 rw [← mixT_set h hi, e, ← mixT_at h hi]
 exact List.set_getElem_self _
theorem far_cells15 {W : World} {g b j : Nat} {v : Value} {c cur : Array Value} {T T' : TypeId} (h : W.heap[b]? = some (.cells c T (0, 0))) (hg : W.heap[g]? = some (.cells cur T' (0, 0))) (hT : T ≠ T') : (W.setCell ⟨g, j, none⟩ v).heap[b]? = some (.cells c T (0, 0)) :=
 (heap_setFar W g j b v (fun e => by
  rw [e, hg] at h
  injection h with h
  injection h with _ h2 _
  exact hT h2.symm)).trans h
end Go.Proofs.YtemmgmjhomgbbaaGreat
