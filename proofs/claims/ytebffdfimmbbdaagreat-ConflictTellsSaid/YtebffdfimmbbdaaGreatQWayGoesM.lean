/-
 With all points as asked a train goes over just the route's sections: the mathematics.
 Conditions: none.
-/
import Derived.Test.YtebffdfimmbbdaaGreatQWayAsksM
set_option linter.unusedVariables false
set_option linter.unusedSimpArgs false
set_option maxRecDepth 100000
namespace Go.Proofs.YtebffdfimmbbdaaGreat
open Go.RowKit

/-- What is asked of a point at a place; 0: nothing. -/
def lieW (x : Wy) (pt a : Int) : Int := match x.asks.find? (fun k => decide (k.1 = pt ∧ k.2.2 = a)) with
 | some k => k.2.1
 | none => 0
theorem lieW_some {x : Wy} {pt a : Int} {i : Nat} (hi : i < x.asks.length) (he : x.asks[i].1 = pt ∧ x.asks[i].2.2 = a) (h : ∀ j (hj : j < i), ¬ ((x.asks[j]'(by omega)).1 = pt ∧ (x.asks[j]'(by omega)).2.2 = a)) : lieW x pt a = x.asks[i].2.1 := by
 have : x.asks.find? (fun k => decide (k.1 = pt ∧ k.2.2 = a)) = some x.asks[i] := by
  rw [List.find?_eq_some_iff_getElem]
  exact ⟨decide_eq_true he, i, hi, rfl, fun j hj => by rw [decide_eq_false (h j hj)]; rfl⟩
 rw [lieW, this]
theorem lieW_none {x : Wy} {pt a : Int} (h : ∀ j (hj : j < x.asks.length), ¬ (x.asks[j].1 = pt ∧ x.asks[j].2.2 = a)) : lieW x pt a = 0 := by
 have : x.asks.find? (fun k => decide (k.1 = pt ∧ k.2.2 = a)) = none := by
  rw [List.find?_eq_none]
  intro k hk
  obtain ⟨j, hj, rfl⟩ := List.getElem_of_mem hk
  simpa using h j hj
 rw [lieW, this]
theorem askN_parts {p : Pl} {r : Rt} {a : Nat} {k : Ak} (h : askN p r a = some k) : k.1 = (secN p ((allR r).getD a 0)).2.1 ∧ k.2.2 = (a : Int) := by
 obtain ⟨L, hL⟩ : ∃ L, L = (if 0 ≤ outA p r a then lieS (secN p ((allR r).getD a 0)).2.1 (inN p r a) (outA p r a) else inN p r a) := ⟨_, rfl⟩
 have h2 : (if (secN p ((allR r).getD a 0)).2.1 = 0 then none else if 0 < L then some ((secN p ((allR r).getD a 0)).2.1, L, (a : Int)) else none) = some k := by rw [hL]; exact h
 by_cases h0 : (secN p ((allR r).getD a 0)).2.1 = 0
 ·rw [if_pos h0] at h2; cases h2
 ·rw [if_neg h0] at h2
  by_cases hp : 0 < L
  ·rw [if_pos hp] at h2
   injection h2 with h2
   rw [← h2]
   exact ⟨rfl, rfl⟩
  ·rw [if_neg hp] at h2; cases h2
theorem mem_way {p : Pl} {r : Rt} {k : Ak} (h : k ∈ (wayR p r).asks) : (∃ i, i < (allR r).length ∧ askN p r i = some k) ∨ k.2.2 = -1 := by
 have h' : k ∈ asksL p r (allR r).length ++ r.flanks.map flankA := h
 rcases List.mem_append.1 h' with h1 | h1
 ·obtain ⟨i, hi, he⟩ := List.mem_filterMap.1 h1
  exact .inl ⟨i, List.mem_range.1 hi, he⟩
 ·obtain ⟨f, -, rfl⟩ := List.mem_map.1 h1
  exact .inr rfl
/-- What the route asks of the point in its section of a place. -/
theorem goes_lie {p : Pl} {r : Rt} {a : Nat} (ha : a < (allR r).length) : lieW (wayR p r) (secN p ((allR r).getD a 0)).2.1 (a : Int) = match askN p r a with
  | some k => k.2.1
  | none => 0 := by
 have only : ∀ k ∈ (wayR p r).asks, k.2.2 = (a : Int) → askN p r a = some k := fun k hk he => by
  rcases mem_way hk with ⟨i, -, hi⟩ | h1
  ·have := (askN_parts hi).2
   obtain rfl : i = a := by omega
   exact hi
  ·omega
 cases hk : askN p r a with
 | none =>
  exact lieW_none fun j hj he => by
   have := only _ (List.getElem_mem hj) he.2
   rw [hk] at this; cases this
 | some k =>
  have hm : k ∈ (wayR p r).asks := List.mem_append_left _ (List.mem_filterMap.2 ⟨a, List.mem_range.2 ha, hk⟩)
  obtain ⟨h1, h2⟩ := askN_parts hk
  cases hf : (wayR p r).asks.find? (fun k => decide (k.1 = (secN p ((allR r).getD a 0)).2.1 ∧ k.2.2 = (a : Int))) with
  | none =>
   have := List.find?_eq_none.1 hf k hm
   exact absurd (decide_eq_true ⟨h1, h2⟩) this
  | some k' =>
   have h3 := List.find?_some hf
   have h4 := only k' (List.mem_of_find?_eq_some hf) (of_decide_eq_true h3).2
   rw [hk] at h4
   injection h4 with h4
   rw [lieW, hf, h4]
theorem lie_zero (a b : Int) (h : 0 ≤ lieS 0 a b) : lieS 0 a b = 0 := by
 rw [lieS, if_pos rfl] at h ⊢
 split
 ·rfl
 ·rename_i h1; rw [if_neg h1] at h; omega
/-- A section that has an out: the train goes on to it. -/
theorem goes_out {p : Pl} {r : Rt} (hr : RouteIn p r) {a : Nat} {t : Jn} (ha : a < (allR r).length) (hh : HereIn p r a t) (hb : lastB r a = false) {e : Nat} (he : outN p r a t.2 = (e : Int)) (hel : e < (secN p ((allR r).getD a 0)).2.2.length) (h0 : 0 ≤ lieS (secN p ((allR r).getD a 0)).2.1 t.2 (e : Int)) :
  outE (secN p ((allR r).getD a 0)) t.2 (lieW (wayR p r) (secN p ((allR r).getD a 0)).2.1 (a : Int)) = 0 ∧ outV (secN p ((allR r).getD a 0)) t.2 (lieW (wayR p r) (secN p ((allR r).getD a 0)).2.1 (a : Int)) = (e : Int) := by
 have hin := in_of hh.comes
 have hoa : outA p r a = (e : Int) := by rw [outA, hb, hin]; exact he
 have hl : lieW (wayR p r) (secN p ((allR r).getD a 0)).2.1 (a : Int) = lieS (secN p ((allR r).getD a 0)).2.1 t.2 (e : Int) := by
  rw [goes_lie ha, askN]
  simp only [hoa, hin]
  by_cases hp : (secN p ((allR r).getD a 0)).2.1 = 0
  ·rw [if_pos hp, hp]
   rw [hp] at h0
   exact (lie_zero _ _ h0).symm
  ·rw [if_neg hp, if_pos (show (0 : Int) ≤ (e : Int) by omega), if_pos (lie_pos hp h0)]
 rw [hl]
 have hsh := (hr.shaped ha).1
 generalize secN p ((allR r).getD a 0) = s at hsh hel h0 ⊢
 have ht : outT s t.2 (lieS s.2.1 t.2 (e : Int)) = some e := outT_some hel rfl fun j hj hne => by
  rw [lieS] at h0 hne
  rw [lieS] at hne
  by_cases hp : s.2.1 = 0
  ·rw [if_pos hp] at h0 hne
   rw [if_pos hp] at hne
   by_cases h1 : t.2 = 0 ∧ (e : Int) = 1 ∨ t.2 = 1 ∧ (e : Int) = 0
   ·rw [if_pos h1] at hne
    rw [if_neg (by omega)] at hne
    omega
   ·rw [if_neg h1] at h0; omega
  ·rw [if_neg hp] at h0 hne
   rw [if_neg hp] at hne
   by_cases h1 : t.2 = 0 ∧ ((e : Int) = 1 ∨ (e : Int) = 2)
   ·rw [if_pos h1] at hne
    by_cases h2 : t.2 = 0 ∧ ((j : Int) = 1 ∨ (j : Int) = 2)
    ·rw [if_pos h2] at hne; omega
    ·rw [if_neg h2, if_neg (by omega)] at hne; omega
   ·rw [if_neg h1] at h0
    by_cases h2 : (e : Int) = 0 ∧ (t.2 = 1 ∨ t.2 = 2)
    ·omega
    ·rw [if_neg h2] at h0; omega
 have hE : outE s t.2 (lieS s.2.1 t.2 (e : Int)) = 0 := by rw [outE, hsh, if_pos rfl, if_neg (by omega), ht]
 exact ⟨hE, by rw [outV, if_pos hE, ht]⟩
/-- An overlap's last section. -/
theorem goes_last {p : Pl} {r : Rt} (hr : RouteIn p r) {a : Nat} {t : Jn} (ha : a < (allR r).length) (hh : HereIn p r a t) (hb : lastB r a = true) (h0 : (secN p ((allR r).getD a 0)).2.1 ≠ 0) : lieW (wayR p r) (secN p ((allR r).getD a 0)).2.1 (a : Int) = t.2 := by
 have hin := in_of hh.comes
 have hoa : outA p r a = -1 := by rw [outA, hb]; rfl
 have hrg := hh.range hr ha
 rw [goes_lie ha, askN]
 simp only [hoa, hin]
 rw [if_neg h0, if_neg (show ¬ (0 : Int) ≤ -1 by omega)]
 by_cases h1 : 0 < t.2
 ·rw [if_pos h1]
 ·rw [if_neg h1]
  show (0 : Int) = t.2
  omega
/-- The ends by which the first m sections are left. -/
theorem goes_left {p : Pl} {r : Rt} (hh : Hangs p r) : ∀ m, m ≤ (allR r).length → (∀ i, i < m → lastB r i = false) → leftL p r m = (List.range m).map fun i => ((allR r).getD i 0, outA p r i)
 | 0, _, _ => rfl
 | m + 1, hm, hb => by
  rw [leftL_succ, goes_left hh m (by omega) (fun i hi => hb i (by omega)), List.range_succ, List.map_append]
  congr 1
  obtain ⟨j, hc, -, ho⟩ := hh m (by omega)
  have h1 := ho (hb m (by omega))
  have h2 : outA p r m = outN p r m j.2 := by rw [outA, hb m (by omega), in_of hc]; rfl
  rw [leftN, if_pos (by omega)]
  rfl
/-- How many sections have an out. -/
def outsN (r : Rt) : Nat := if 0 < r.over.length then (allR r).length - 1 else (allR r).length
theorem outs_parts {p : Pl} {r : Rt} (hr : RouteIn p r) (hh : Hangs p r) : (leftL p r (allR r).length).length = outsN r ∧ (∀ i, i < outsN r → lastB r i = false) ∧ (∀ i (hi : i < (leftL p r (allR r).length).length), (leftL p r (allR r).length)[i] = ((allR r).getD i 0, outA p r i)) := by
 have hl := hr.len
 have hb : ∀ i, i < outsN r → lastB r i = false := fun i hi => decide_eq_false (fun h => by rw [outsN, if_pos h.2] at hi; omega)
 have he : leftL p r (allR r).length = leftL p r (outsN r) := by
  rw [outsN]
  split
  ·rename_i h
   have h1 : leftL p r ((allR r).length - 1 + 1) = leftL p r ((allR r).length - 1) ++ (leftN p r ((allR r).length - 1)).toList := leftL_succ p r _
   have h2 : outA p r ((allR r).length - 1) = -1 := by rw [outA, lastB, decide_eq_true ⟨by omega, h⟩]; rfl
   rw [show (allR r).length - 1 + 1 = (allR r).length from by omega, leftN, h2, if_neg (by omega)] at h1
   simpa using h1
  ·rfl
 have h3 := goes_left hh (outsN r) (by rw [outsN]; split <;> omega) hb
 rw [he]
 refine ⟨by rw [h3]; simp, hb, fun i hi => ?_⟩
 simp only [h3, List.getElem_map, List.getElem_range]
theorem stand_at {p : Pl} (h : PlanMay p) {k : Nat} (hk : k < p.secs.length) {e : Nat} (he : e < p.secs[k].2.2.length) : stE p p.secs[k].1 (e : Int) = 0 ∧ stN p p.secs[k].1 (e : Int) = standsS p.sigs p.secs[k].1 (e : Int) := by
 have h1 := stE_zero h hk (atS_at h.secs hk) (show (0 : Int) ≤ (e : Int) by omega) (by omega)
 exact ⟨h1, by rw [stN, if_pos h1]⟩
end Go.Proofs.YtebffdfimmbbdaaGreat
