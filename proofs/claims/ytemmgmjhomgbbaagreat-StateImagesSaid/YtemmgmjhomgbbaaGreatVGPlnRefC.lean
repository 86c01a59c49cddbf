/-
 The document's own function May of package plan.
 Conditions: none.
-/
import Derived.Test.YtemmgmjhomgbbaaGreatVPlnRefF
set_option linter.unusedVariables false
set_option linter.unusedSimpArgs false
set_option maxRecDepth 100000
namespace Go.Proofs.YtemmgmjhomgbbaaGreat
open Go.RowKit
/-- A plan may be. -/
structure PlanMay (p : Pl) : Prop where
 ver : 1 ≤ p.ver ∧ p.ver ≤ 2147483647
 par : 0 ≤ p.par ∧ p.par < p.ver
 n : p.routes.length ≤ 16
 secs : TMay p.secs
 pts : PtsMay p
 sigs : SigsMay p
 each : ∀ i (h : i < p.routes.length), (1 ≤ p.routes[i].id ∧ p.routes[i].id ≤ 99) ∧ (∀ j (hj : j + 1 = i), (p.routes[j]'(Nat.lt_trans (Nat.lt_of_succ_le (Nat.le_of_eq hj)) h)).id < p.routes[i].id) ∧ RouteMay p p.routes[i]
noncomputable def planMay (p : Pl) : Bool := @decide (PlanMay p) (Classical.propDecidable _)
theorem planMay_true {p : Pl} (h : PlanMay p) : planMay p = true := by rw [planMay]; exact @decide_eq_true _ (Classical.propDecidable _) h
theorem planMay_false {p : Pl} (h : ¬ PlanMay p) : planMay p = false := by rw [planMay]; exact @decide_eq_false _ (Classical.propDecidable _) h
theorem planMay_iff {p : Pl} : planMay p = true ↔ PlanMay p := by rw [planMay]; exact @decide_eq_true_iff _ (Classical.propDecidable _)


theorem at1_mem {α : Type} {k : α → Int} {l : List α} {id : Int} (h : ∃ s ∈ l, k s = id) : ∃ i, ∃ hi : i < l.length, at1 k l id = (i : Int) ∧ k l[i] = id := by
 rcases at1_cases k l id with ⟨-, h2⟩ | ⟨i, hi, h1, h2, -⟩
 ·obtain ⟨s, hs, he⟩ := h
  obtain ⟨j, hj, rfl⟩ := List.getElem_of_mem hs
  exact absurd he (h2 j hj)
 ·exact ⟨i, hi, h1, h2⟩
theorem at1_of {α : Type} {k : α → Int} {l : List α} {id : Int} {i : Nat} (h : at1 k l id = (i : Int)) : ∃ hi : i < l.length, k l[i] = id := by
 rcases at1_cases k l id with ⟨h1, -⟩ | ⟨j, hj, h1, h2, -⟩
 ·omega
 ·obtain rfl : j = i := by omega
  exact ⟨hj, h2⟩
theorem rise_of {α : Type} {k : α → Int} {l : List α} (h : ∀ i (h : i < l.length), ∀ j (hj : j + 1 = i), k (l[j]'(by omega)) < k l[i]) : l.Pairwise (fun a b => k a < k b) := by
 refine List.pairwise_iff_getElem.2 fun i j hi hj hlt => ?_
 have main : ∀ d i (hd : i + d + 1 < l.length), k (l[i]'(by omega)) < k l[i + d + 1] := by
  intro d
  induction d with
  | zero => exact fun i hd => h (i + 1) hd i rfl
  | succ d ih => exact fun i hd => Int.lt_trans (ih i (by omega)) (h (i + (d + 1) + 1) hd (i + d + 1) (by omega))
 have e := main (j - i - 1) i (by omega)
 have e2 : i + (j - i - 1) + 1 = j := by omega
 simp only [e2] at e
 exact e

theorem results_rowS_tmp {P : Program} {fn : Func} {p u : Tmp} {ty : TypeId} (h : fn.results = #[.cell p ty, .tmp u]) (tmps : Array Value) (w : World) (g : Nat) {c : Array Value} {t : TypeId} {fr : Nat × Nat} (hp : tmps.getD p undef = .pointer (some ⟨g, 0, none⟩)) (hb : w.heap[g]? = some (.cells c t fr))
  {fs : Array Field} (hu : P.underlying ty = some (.struct fs)) (hi : (P.info? ty).map (·.size) = some c.size) (x : Value) (hx : tmps.getD u undef = x) : (results fn tmps).run P w = .ok (.tuple #[.agg c, x]) w := by
 have hp' : tmps[p]?.getD undef = .pointer (some ⟨g, 0, none⟩) := by simpa using hp
 rw [results_cell_tmp h, hp, hx]
 simp [asAddr, run_loadVar_row w g t ty c fr _ hb hu rfl (by simpa using hi)]
noncomputable def chk8 (p : Pl) : Int := if planMay p then 0 else 8
abbrev kPt : Jn → Int := fun x => x.1
abbrev kSg : Sg → Int := fun x => x.1
abbrev kRt : Rt → Int := fun x => x.id
def zRt : Rt := ⟨0, 0, 0, [], [], [], 0⟩
theorem infoPoint2 : (Tryz.prog.info? 67).map (·.size) = some 2 := by kernel_rfl
theorem infoSig3 : (Tryz.prog.info? 115).map (·.size) = some 3 := by kernel_rfl

theorem atS_of {l : List Sec} {id : Int} {i : Nat} (h : atS l id = (i : Int)) : ∃ hi : i < l.length, l[i].1 = id := by
 rcases atS_cases l id with h1 | ⟨j, hj, h1, h2⟩
 ·omega
 ·obtain rfl : j = i := by omega
  exact ⟨hj, h2⟩
theorem shaped_two {s : Sec} (h : shapedB s = true) : 2 ≤ s.2.2.length := by
 rw [shapedB] at h
 split at h
 ·have := of_decide_eq_true h; omega
 ·simp only [Bool.and_eq_true, decide_eq_true_eq] at h; omega
end Go.Proofs.YtemmgmjhomgbbaaGreat
