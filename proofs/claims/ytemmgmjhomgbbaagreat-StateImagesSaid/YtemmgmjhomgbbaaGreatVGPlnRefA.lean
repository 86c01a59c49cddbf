/-
 The document's own functions of package plan: PointAt, SignalAt, RouteAt, At, Ints, Great.
 Conditions: none.
-/
import Derived.Test.YtemmgmjhomgbbaaGreatVGBase
import Derived.Test.YtemmgmjhomgbbaaGreatVGTrkRef
import Derived.BigQuiet
set_option linter.unusedVariables false
set_option linter.unusedSimpArgs false
set_option maxRecDepth 100000
namespace Go.Proofs.YtemmgmjhomgbbaaGreat
open Go.RowKit

/-- The place of the first one of that number; -1: there is none. -/
def at1 {α : Type} (k : α → Int) (l : List α) (id : Int) : Int := match l.findIdx? (fun s => decide (k s = id)) with
 | some i => (i : Int)
 | none => -1
theorem at1_none {α : Type} {k : α → Int} {l : List α} {id : Int} (h : ∀ j (h : j < l.length), k l[j] ≠ id) : at1 k l id = -1 := by
 have : l.findIdx? (fun s => decide (k s = id)) = none := by
  rw [List.findIdx?_eq_none_iff]
  intro x hx
  obtain ⟨j, hj, rfl⟩ := List.getElem_of_mem hx
  exact decide_eq_false (h j hj)
 rw [at1, this]
theorem at1_some {α : Type} {k : α → Int} {l : List α} {id : Int} {i : Nat} (hi : i < l.length) (he : k l[i] = id) (h : ∀ j (h : j < i), k (l[j]'(by omega)) ≠ id) : at1 k l id = (i : Int) := by
 have : l.findIdx? (fun s => decide (k s = id)) = some i := by
  rw [List.findIdx?_eq_some_iff_getElem]
  exact ⟨hi, decide_eq_true he, fun j hj => by simpa using h j hj⟩
 rw [at1, this]
theorem at1_cases {α : Type} (k : α → Int) (l : List α) (id : Int) : (at1 k l id = -1 ∧ ∀ j (h : j < l.length), k l[j] ≠ id) ∨ ∃ (i : Nat) (h : i < l.length), at1 k l id = (i : Int) ∧ k l[i] = id ∧ ∀ j (hj : j < i), k (l[j]'(by omega)) ≠ id := by
 rw [at1]
 cases h : l.findIdx? (fun s => decide (k s = id)) with
 | none =>
  refine .inl ⟨rfl, fun j hj => ?_⟩
  have := List.findIdx?_eq_none_iff.1 h _ (List.getElem_mem hj)
  exact of_decide_eq_false this
 | some i =>
  obtain ⟨hi, he, h2⟩ := List.findIdx?_eq_some_iff_getElem.1 h
  exact .inr ⟨i, hi, rfl, of_decide_eq_true he, fun j hj => by simpa using h2 j hj⟩


theorem cell6_of {w : World} {b : Nat} {v0 v1 v2 v3 v4 v5 : Value} {t : TypeId} {fr : Nat × Nat} (h : w.heap[b]? = some (.cells #[v0, v1, v2, v3, v4, v5] t fr)) : w.cell? ⟨b, 0, none⟩ = some v0 ∧ w.cell? ⟨b, 1, none⟩ = some v1 ∧ w.cell? ⟨b, 2, none⟩ = some v2 ∧ w.cell? ⟨b, 3, none⟩ = some v3 ∧ w.cell? ⟨b, 4, none⟩ = some v4 ∧ w.cell? ⟨b, 5, none⟩ = some v5 :=
 ⟨cell_of_row _ _ _ _ _ _ h, cell_of_row _ _ _ _ _ _ h, cell_of_row _ _ _ _ _ _ h, cell_of_row _ _ _ _ _ _ h, cell_of_row _ _ _ _ _ _ h, cell_of_row _ _ _ _ _ _ h⟩
theorem cell7_of {w : World} {b : Nat} {v0 v1 v2 v3 v4 v5 v6 : Value} {t : TypeId} {fr : Nat × Nat} (h : w.heap[b]? = some (.cells #[v0, v1, v2, v3, v4, v5, v6] t fr)) : w.cell? ⟨b, 0, none⟩ = some v0 ∧ w.cell? ⟨b, 1, none⟩ = some v1 ∧ w.cell? ⟨b, 2, none⟩ = some v2 ∧ w.cell? ⟨b, 3, none⟩ = some v3 ∧ w.cell? ⟨b, 4, none⟩ = some v4 ∧ w.cell? ⟨b, 5, none⟩ = some v5 ∧ w.cell? ⟨b, 6, none⟩ = some v6 :=
 ⟨cell_of_row _ _ _ _ _ _ h, cell_of_row _ _ _ _ _ _ h, cell_of_row _ _ _ _ _ _ h, cell_of_row _ _ _ _ _ _ h, cell_of_row _ _ _ _ _ _ h, cell_of_row _ _ _ _ _ _ h, cell_of_row _ _ _ _ _ _ h⟩

/-- The signal that stands at an end; 0: none. -/
def standsS (l : List Sg) (sec en : Int) : Int := match l.find? (fun s => decide (s.2.1 = sec ∧ s.2.2 = en)) with
 | some s => s.1
 | none => 0
theorem stands_none {l : List Sg} {sec en : Int} (h : ∀ j (h : j < l.length), ¬ (l[j].2.1 = sec ∧ l[j].2.2 = en)) : standsS l sec en = 0 := by
 have : l.find? (fun s => decide (s.2.1 = sec ∧ s.2.2 = en)) = none := by
  rw [List.find?_eq_none]
  intro x hx
  obtain ⟨j, hj, rfl⟩ := List.getElem_of_mem hx
  simpa using h j hj
 rw [standsS, this]
theorem stands_some {l : List Sg} {sec en : Int} {i : Nat} (hi : i < l.length) (he : l[i].2.1 = sec ∧ l[i].2.2 = en) (h : ∀ j (h : j < i), ¬ ((l[j]'(by omega)).2.1 = sec ∧ (l[j]'(by omega)).2.2 = en)) : standsS l sec en = l[i].1 := by
 have : l.find? (fun s => decide (s.2.1 = sec ∧ s.2.2 = en)) = some l[i] := by
  rw [List.find?_eq_some_iff_getElem]
  exact ⟨decide_eq_true he, i, hi, rfl, fun j hj => by simp only [Bool.not_eq_true', decide_eq_false_iff_not]; exact h j hj⟩
 rw [standsS, this]
/-- Plans that are not great. -/
structure FewP (p : Pl) : Prop where
 secs : Few p.secs
 pts : p.pts.length ≤ 40
 sigs : p.sigs.length ≤ 40
 routes : p.routes.length ≤ 40
 each : ∀ j (h : j < p.routes.length), p.routes[j].path.length ≤ 20 ∧ p.routes[j].over.length ≤ 20 ∧ p.routes[j].flanks.length ≤ 20
abbrev hasPt : Sec → Bool := fun s => decide (s.2.1 ≠ 0)
/-- A plan's points may be. -/
structure PtsMay (p : Pl) : Prop where
 n : p.pts.length ≤ 6
 many : p.secs.countP hasPt = p.pts.length
 each : ∀ i (h : i < p.pts.length), 1 ≤ p.pts[i].1 ∧ p.pts[i].1 ≤ 99 ∧ (∀ j (hj : j + 1 = i), (p.pts[j]'(by omega)).1 < p.pts[i].1) ∧ ∃ k, ∃ hk : k < p.secs.length, atS p.secs p.pts[i].2 = (k : Int) ∧ p.secs[k].2.1 = p.pts[i].1
theorem count_take {α : Type} (f : α → Bool) {l : List α} {i : Nat} (hi : i < l.length) : (l.take (i + 1)).countP f = (l.take i).countP f + if f l[i] then 1 else 0 := by
 rw [List.take_add_one, List.getElem?_eq_getElem hi, List.countP_append]
 simp [List.countP_cons]
theorem count_le {α : Type} (f : α → Bool) (l : List α) (i : Nat) : (l.take i).countP f ≤ i := Nat.le_trans List.countP_le_length (by rw [List.length_take]; omega)

/-- A plan's signals may be. -/
structure SigsMay (p : Pl) : Prop where
 n : p.sigs.length ≤ 10
 each : ∀ i (h : i < p.sigs.length), 1 ≤ p.sigs[i].1 ∧ p.sigs[i].1 ≤ 99 ∧ (∃ k, ∃ hk : k < p.secs.length, atS p.secs p.sigs[i].2.1 = (k : Int) ∧ 0 ≤ p.sigs[i].2.2 ∧ p.sigs[i].2.2 < p.secs[k].2.2.length) ∧ ∀ m (hm : m < i), (p.sigs[m]'(by omega)).1 < p.sigs[i].1 ∧ ¬ ((p.sigs[m]'(by omega)).2.1 = p.sigs[i].2.1 ∧ (p.sigs[m]'(by omega)).2.2 = p.sigs[i].2.2)
end Go.Proofs.YtemmgmjhomgbbaaGreat
