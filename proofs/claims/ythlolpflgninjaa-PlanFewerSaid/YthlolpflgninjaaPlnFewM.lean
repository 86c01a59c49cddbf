/-
  A plan that may be, without one of its routes, with a later version, and without signals that no route names, may be.
  Conditions: none.
-/
import Derived.Test.YthlolpflgninjaaPlnRefG
set_option linter.unusedVariables false
set_option linter.unusedSimpArgs false
set_option maxRecDepth 100000
namespace Go.Proofs.Ythlolpflgninjaa
open Go.RowKit

theorem at1_mem {α : Type} {k : α → Int} {l : List α} {id : Int} (h : ∃ s ∈ l, k s = id) : ∃ i, ∃ hi : i < l.length, at1 k l id = (i : Int) ∧ k l[i] = id := by
  rcases at1_cases k l id with ⟨-, h2⟩ | ⟨i, hi, h1, h2, -⟩
  · obtain ⟨s, hs, he⟩ := h
    obtain ⟨j, hj, rfl⟩ := List.getElem_of_mem hs
    exact absurd he (h2 j hj)
  · exact ⟨i, hi, h1, h2⟩
theorem at1_of {α : Type} {k : α → Int} {l : List α} {id : Int} {i : Nat} (h : at1 k l id = (i : Int)) : ∃ hi : i < l.length, k l[i] = id := by
  rcases at1_cases k l id with ⟨h1, -⟩ | ⟨j, hj, h1, h2, -⟩
  · omega
  · obtain rfl : j = i := by omega
    exact ⟨hj, h2⟩
theorem rise_of {α : Type} {k : α → Int} {l : List α} (h : ∀ i (h : i < l.length), ∀ j (hj : j + 1 = i), k (l[j]'(by omega)) < k l[i]) : l.Pairwise (fun a b => k a < k b) := by
  refine List.pairwise_iff_getElem.2 fun i j hi hj hlt => ?_
  have main : ∀ d i (hd : i + d + 1 < l.length), k (l[i]'(by omega)) < k l[i + d + 1] := by
    intro d
    induction d with
    | zero => exact fun i hd => h (i + 1) hd i rfl
    | succ d ih => exact fun i hd => Int.lt_trans (ih i (by omega)) (h (i + (d + 1) + 1) hd (i + d + 1) (by omega))
  have e := main (j - i - 1) i (by omega)
  have e2 : i + (j - i - 1) + 1 = j := by omega
  simp only [e2] at e
  exact e
theorem rise_uniq {α : Type} {k : α → Int} {l : List α} (h : l.Pairwise (fun a b => k a < k b)) {s t : α} (hs : s ∈ l) (ht : t ∈ l) (he : k s = k t) : s = t := by
  obtain ⟨i, hi, rfl⟩ := List.getElem_of_mem hs
  obtain ⟨j, hj, rfl⟩ := List.getElem_of_mem ht
  have h' := List.pairwise_iff_getElem.1 h
  rcases Nat.lt_trichotomy i j with hlt | rfl | hlt
  · have := h' i j hi hj hlt; omega
  · rfl
  · have := h' j i hj hi hlt; omega

def namedB (rs : List Rt) (s : Sg) : Bool := rs.any (fun r => decide (r.entry = s.1 ∨ r.exit = s.1))
def fewP (p : Pl) (k : Nat) : Pl := ⟨if p.ver < 2147483647 then p.ver + 1 else p.ver, if p.ver < 2147483647 then p.ver else p.par, p.secs, p.pts, p.sigs.filter (namedB (p.routes.eraseIdx k)), p.routes.eraseIdx k⟩
theorem sigs_parts {p : Pl} (h : SigsMay p) : p.sigs.Pairwise (fun a b => a.1 < b.1 ∧ ¬ (a.2.1 = b.2.1 ∧ a.2.2 = b.2.2)) ∧ ∀ s ∈ p.sigs, 1 ≤ s.1 ∧ s.1 ≤ 99 ∧ ∃ k, ∃ hk : k < p.secs.length, atS p.secs s.2.1 = (k : Int) ∧ 0 ≤ s.2.2 ∧ s.2.2 < p.secs[k].2.2.length := by
  refine ⟨List.pairwise_iff_getElem.2 fun i j hi hj hlt => (h.each j hj).2.2.2 i hlt, fun s hs => ?_⟩
  obtain ⟨i, hi, rfl⟩ := List.getElem_of_mem hs
  exact ⟨(h.each i hi).1, (h.each i hi).2.1, (h.each i hi).2.2.1⟩
theorem few_may {p : Pl} (h : PlanMay p) (k : Nat) : PlanMay (fewP p k) := by
  obtain ⟨hs1, hs2⟩ := sigs_parts h.sigs
  have hsub : (p.sigs.filter (namedB (p.routes.eraseIdx k))).Sublist p.sigs := List.filter_sublist
  have hrs : (p.routes.eraseIdx k).Sublist p.routes := List.eraseIdx_sublist ..
  have hrise : p.sigs.Pairwise (fun a b : Sg => a.1 < b.1) := hs1.imp fun h => h.1
  have hv := h.ver
  have hp := h.par
  have here : ∀ r ∈ p.routes.eraseIdx k, ∀ s ∈ p.sigs, (r.entry = s.1 ∨ r.exit = s.1) → s ∈ p.sigs.filter (namedB (p.routes.eraseIdx k)) := fun r hr s hs he => List.mem_filter.2 ⟨hs, by rw [namedB, List.any_eq_true]; exact ⟨r, hr, decide_eq_true he⟩⟩
  refine ⟨?_, ?_, Nat.le_trans hrs.length_le h.n, h.secs, ⟨h.pts.n, h.pts.many, h.pts.each⟩, ⟨Nat.le_trans hsub.length_le h.sigs.n, fun i hi => ?_⟩, fun i hi => ?_⟩
  · show 1 ≤ (if p.ver < 2147483647 then p.ver + 1 else p.ver) ∧ (if p.ver < 2147483647 then p.ver + 1 else p.ver) ≤ 2147483647
    split <;> omega
  · show 0 ≤ (if p.ver < 2147483647 then p.ver else p.par) ∧ (if p.ver < 2147483647 then p.ver else p.par) < (if p.ver < 2147483647 then p.ver + 1 else p.ver)
    split <;> omega
  · have hm : (fewP p k).sigs[i] ∈ p.sigs := hsub.subset (List.getElem_mem hi)
    obtain ⟨a, b, c⟩ := hs2 _ hm
    exact ⟨a, b, c, fun m hm => List.pairwise_iff_getElem.1 (hs1.sublist hsub) m i (Nat.lt_trans hm hi) hi hm⟩
  · have hpr : p.routes.Pairwise (fun a b : Rt => a.id < b.id) := rise_of fun i h2 j hj => (h.each i h2).2.1 j hj
    have hm' : (fewP p k).routes[i] ∈ p.routes.eraseIdx k := List.getElem_mem hi
    have hm : (fewP p k).routes[i] ∈ p.routes := hrs.subset hm'
    generalize hr : (fewP p k).routes[i] = r at hm hm'
    obtain ⟨u, hu, rfl⟩ := List.getElem_of_mem hm
    obtain ⟨hid, -, hR⟩ := h.each u hu
    refine ⟨hid, fun j hj => ?_, ?_⟩
    · rw [← hr]
      exact List.pairwise_iff_getElem.1 (hpr.sublist hrs) j i (Nat.lt_trans (Nat.lt_of_succ_le (Nat.le_of_eq hj)) hi) hi (Nat.lt_of_succ_le (Nat.le_of_eq hj))
    · obtain ⟨n, hn, hat, hne⟩ := hR.entry
      obtain ⟨_, hne1⟩ := at1_of hat
      have hmem := here _ hm' p.sigs[n] (List.getElem_mem hn) (.inl hne1.symm)
      obtain ⟨i2, hi2, ha2, hk2⟩ := at1_mem (k := fun x : Sg => x.1) ⟨_, hmem, hne1⟩
      have hsame : (p.sigs.filter (namedB (p.routes.eraseIdx k)))[i2] = p.sigs[n] := rise_uniq (k := fun x : Sg => x.1) hrise (hsub.subset (List.getElem_mem hi2)) (List.getElem_mem hn) (hk2.trans hne1.symm)
      refine ⟨⟨i2, hi2, ha2, fun x hx => ?_⟩, fun hx => ⟨?_, (hR.exit hx).2⟩, hR.over0, hR.path, hR.over, hR.flank, hR.timer, hR.secs, hR.flanks⟩
      · show _ ≠ ((p.sigs.filter (namedB (p.routes.eraseIdx k)))[i2]).2.1
        rw [hsame]
        exact hne x hx
      · rcases at1_cases (fun x : Sg => x.1) p.sigs p.routes[u].exit with ⟨h1, -⟩ | ⟨j, hj, h1, h2, -⟩
        · have := (hR.exit hx).1; omega
        · obtain ⟨i3, hi3, ha3, -⟩ := at1_mem (k := fun x : Sg => x.1) ⟨_, here _ hm' p.sigs[j] (List.getElem_mem hj) (.inr h2.symm), h2⟩
          show 0 ≤ at1 (fun x : Sg => x.1) (p.sigs.filter (namedB (p.routes.eraseIdx k))) p.routes[u].exit
          omega
theorem few_chk {p : Pl} (h : planMay p = true) (k : Nat) : planMay (fewP p k) = true := planMay_true (few_may (planMay_iff.1 h) k)
end Go.Proofs.Ythlolpflgninjaa
