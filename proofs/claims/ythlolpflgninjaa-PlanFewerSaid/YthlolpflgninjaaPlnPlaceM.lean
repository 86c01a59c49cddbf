/-
  Where a plan's points, signals and routes' sections lie.
  Conditions: none.
-/
import Derived.Test.YthlolpflgninjaaPlnFewM
import Derived.Test.YthlolpflgninjaaPlnRefH
set_option linter.unusedVariables false
set_option linter.unusedSimpArgs false
set_option maxRecDepth 100000
namespace Go.Proofs.Ythlolpflgninjaa
open Go.RowKit

theorem atS_of {l : List Sec} {id : Int} {i : Nat} (h : atS l id = (i : Int)) : ∃ hi : i < l.length, l[i].1 = id := by
  rcases atS_cases l id with h1 | ⟨j, hj, h1, h2⟩
  · omega
  · obtain rfl : j = i := by omega
    exact ⟨hj, h2⟩
theorem place_pt {p : Pl} (h : PlanMay p) (i : Nat) (hi : i < p.pts.length) : ∃ k, ∃ hk : k < p.secs.length, p.secs[k].2.1 = p.pts[i].1 ∧ p.secs[k].1 = p.pts[i].2 ∧ p.secs[k].2.2.length = 3 ∧ ∀ j (hj : j < p.secs.length), p.secs[j].2.1 = p.pts[i].1 → j = k := by
  obtain ⟨h1, -, -, k, hk, hat, hpt⟩ := h.pts.each i hi
  obtain ⟨_, hid⟩ := atS_of hat
  have hne : p.secs[k].2.1 ≠ 0 := by omega
  refine ⟨k, hk, hpt, hid, ?_, fun j hj he => ?_⟩
  · have hs := (h.secs.s k hk).2.2
    rw [shapedB, if_neg hne] at hs
    simp only [Bool.and_eq_true, decide_eq_true_eq] at hs
    exact hs.2.2
  · rcases Nat.lt_trichotomy j k with hlt | rfl | hlt
    · exact absurd ⟨hne, he.trans hpt.symm⟩ (h.secs.k k j hlt hk).2
    · rfl
    · exact absurd ⟨by rw [he]; omega, hpt.trans he.symm⟩ (h.secs.k j k hlt hj).2
theorem stE_zero {p : Pl} (h : PlanMay p) {id en : Int} {k : Nat} (hk : k < p.secs.length) (hat : atS p.secs id = (k : Int)) (h0 : 0 ≤ en) (hn : en < p.secs[k].2.2.length) : stE p id en = 0 := by
  have hf : findE7 p.secs id = 0 := by rw [findE7, mayT_true h.secs, if_pos rfl, if_neg (by omega)]
  have hs : findS7 p.secs id = p.secs[k] := by rw [findS7, hf, if_pos rfl, hat]; simp [List.getD, List.getElem?_eq_getElem hk]
  rw [stE, planMay_true h, if_pos rfl, nextE7, hf, if_pos rfl, hs, if_neg (by omega)]
theorem place_sig {p : Pl} (h : PlanMay p) (i : Nat) (hi : i < p.sigs.length) : stE p p.sigs[i].2.1 p.sigs[i].2.2 = 0 ∧ stN p p.sigs[i].2.1 p.sigs[i].2.2 = p.sigs[i].1 := by
  obtain ⟨-, -, ⟨k, hk, hat, h0, hn⟩, hne⟩ := h.sigs.each i hi
  have e := stE_zero h hk hat h0 hn
  exact ⟨e, by rw [stN, e, if_pos rfl]; exact stands_some hi ⟨rfl, rfl⟩ (fun j hj => (hne j hj).2)⟩
theorem shaped_two {s : Sec} (h : shapedB s = true) : 2 ≤ s.2.2.length := by
  rw [shapedB] at h
  split at h
  · have := of_decide_eq_true h; omega
  · simp only [Bool.and_eq_true, decide_eq_true_eq] at h; omega
theorem stE_sec {p : Pl} (h : PlanMay p) {id : Int} (h0 : 0 ≤ atS p.secs id) : stE p id 0 = 0 := by
  rcases atS_cases p.secs id with h1 | ⟨k, hk, h1, -⟩
  · omega
  · exact stE_zero h hk h1 (Int.le_refl _) (by have := shaped_two (h.secs.s k hk).2.2; omega)
theorem place_route {p : Pl} (h : PlanMay p) (u : Nat) (hu : u < p.routes.length) : elE p kSg p.sigs p.routes[u].entry = 0 ∧
    ∀ i (hi : i < ((elV p kSg p.sigs p.routes[u].entry (0, 0, 0)).2.1 :: (p.routes[u].path ++ p.routes[u].over)).length),
      stE p ((elV p kSg p.sigs p.routes[u].entry (0, 0, 0)).2.1 :: (p.routes[u].path ++ p.routes[u].over))[i] 0 = 0 ∧
      ∀ m (hm : m < i), ((elV p kSg p.sigs p.routes[u].entry (0, 0, 0)).2.1 :: (p.routes[u].path ++ p.routes[u].over))[m] ≠ ((elV p kSg p.sigs p.routes[u].entry (0, 0, 0)).2.1 :: (p.routes[u].path ++ p.routes[u].over))[i] := by
  have hR := (h.each u hu).2.2
  obtain ⟨k, hk, hat, hne⟩ := hR.entry
  obtain ⟨e1, e2⟩ := elE_some (z := ((0, 0, 0) : Sg)) (planMay_true h) hk hat
  refine ⟨e1, fun i hi => ?_⟩
  have e2' : (elV p kSg p.sigs p.routes[u].entry (0, 0, 0)).2.1 = p.sigs[k].2.1 := by rw [e2]
  generalize elV p kSg p.sigs p.routes[u].entry (0, 0, 0) = S at hi e2' ⊢
  cases i with
  | zero =>
    refine ⟨?_, fun m hm => absurd hm (by omega)⟩
    show stE p S.2.1 0 = 0
    obtain ⟨-, -, ⟨k2, hk2, hat2, -, -⟩, -⟩ := h.sigs.each k hk
    rw [e2']
    exact stE_sec h (by omega)
  | succ i =>
    have hi' : i < (p.routes[u].path ++ p.routes[u].over).length := by simpa using hi
    refine ⟨stE_sec h (hR.secs i hi').1, fun m hm => ?_⟩
    cases m with
    | zero => exact fun he => hne i hi' ((show (p.routes[u].path ++ p.routes[u].over)[i] = S.2.1 from he.symm).trans e2')
    | succ m => exact (hR.secs i hi').2 m (by omega)
end Go.Proofs.Ythlolpflgninjaa
