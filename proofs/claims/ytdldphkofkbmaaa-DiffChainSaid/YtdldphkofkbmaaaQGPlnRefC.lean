/-
 The document's own function May of package plan.
 Conditions: none.
-/
import Derived.Test.YtdldphkofkbmaaaQPlnRefF
set_option linter.unusedVariables false
set_option linter.unusedSimpArgs false
set_option maxRecDepth 100000
namespace Go.Proofs.Ytdldphkofkbmaaa
open Go.RowKit
/-- A plan may be. -/
structure PlanMay (p : Pl) : Prop where
 ver : 1 ≤ p.ver ∧ p.ver ≤ 2147483647
 par : 0 ≤ p.par ∧ p.par < p.ver
 n : p.routes.length ≤ 16
 secs : TMay p.secs
 pts : PtsMay p
 sigs : SigsMay p
 each : ∀ i (h : i < p.routes.length), (1 ≤ p.routes[i].id ∧ p.routes[i].id ≤ 99) ∧ (∀ j (hj : j + 1 = i), (p.routes[j]'(Nat.lt_trans (Nat.lt_of_succ_le (Nat.le_of_eq hj)) h)).id < p.routes[i].id) ∧ RouteMay p p.routes[i]
noncomputable def planMay (p : Pl) : Bool := @decide (PlanMay p) (Classical.propDecidable _)
theorem planMay_true {p : Pl} (h : PlanMay p) : planMay p = true := by rw [planMay]; exact @decide_eq_true _ (Classical.propDecidable _) h
theorem planMay_false {p : Pl} (h : ¬ PlanMay p) : planMay p = false := by rw [planMay]; exact @decide_eq_false _ (Classical.propDecidable _) h
theorem planMay_iff {p : Pl} : planMay p = true ↔ PlanMay p := by rw [planMay]; exact @decide_eq_true_iff _ (Classical.propDecidable _)


theorem results_rowS_tmp {P : Program} {fn : Func} {p u : Tmp} {ty : TypeId} (h : fn.results = #[.cell p ty, .tmp u]) (tmps : Array Value) (w : World) (g : Nat) {c : Array Value} {t : TypeId} {fr : Nat × Nat} (hp : tmps.getD p undef = .pointer (some ⟨g, 0, none⟩)) (hb : w.heap[g]? = some (.cells c t fr))
  {fs : Array Field} (hu : P.underlying ty = some (.struct fs)) (hi : (P.info? ty).map (·.size) = some c.size) (x : Value) (hx : tmps.getD u undef = x) : (results fn tmps).run P w = .ok (.tuple #[.agg c, x]) w := by
 have hp' : tmps[p]?.getD undef = .pointer (some ⟨g, 0, none⟩) := by simpa using hp
 rw [results_cell_tmp h, hp, hx]
 simp [asAddr, run_loadVar_row w g t ty c fr _ hb hu rfl (by simpa using hi)]
noncomputable def chk8 (p : Pl) : Int := if planMay p then 0 else 8
noncomputable def elE {α : Type} (p : Pl) (k : α → Int) (l : List α) (id : Int) : Int := if planMay p then (if at1 k l id < 0 then 6 else 0) else 8
noncomputable def elV {α : Type} (p : Pl) (k : α → Int) (l : List α) (id : Int) (z : α) : α := if elE p k l id = 0 then l.getD (at1 k l id).toNat z else z
abbrev kPt : Jn → Int := fun x => x.1
abbrev kSg : Sg → Int := fun x => x.1
abbrev kRt : Rt → Int := fun x => x.id
def zRt : Rt := ⟨0, 0, 0, [], [], [], 0⟩
theorem elE_bad {α : Type} {p : Pl} {k : α → Int} {l : List α} {id : Int} {z : α} (h : planMay p = false) : elE p k l id = 8 ∧ elV p k l id z = z := by
 have e : elE p k l id = 8 := by rw [elE, h]; rfl
 exact ⟨e, by rw [elV, e]; rfl⟩
theorem elE_none {α : Type} {p : Pl} {k : α → Int} {l : List α} {id : Int} {z : α} (h : planMay p = true) (h0 : at1 k l id < 0) : elE p k l id = 6 ∧ elV p k l id z = z := by
 have e : elE p k l id = 6 := by rw [elE, h, if_pos rfl, if_pos h0]
 exact ⟨e, by rw [elV, e]; rfl⟩
theorem elE_some {α : Type} {p : Pl} {k : α → Int} {l : List α} {id : Int} {z : α} (h : planMay p = true) {i : Nat} (hi : i < l.length) (h0 : at1 k l id = (i : Int)) : elE p k l id = 0 ∧ elV p k l id z = l[i] := by
 have e : elE p k l id = 0 := by rw [elE, h, if_pos rfl, if_neg (by omega)]
 exact ⟨e, by rw [elV, e, if_pos rfl, h0]; simp [List.getD, List.getElem?_eq_getElem hi]⟩

theorem infoPoint2 : (Try.prog.info? 62).map (·.size) = some 2 := by kernel_rfl
theorem infoSig3 : (Try.prog.info? 64).map (·.size) = some 3 := by kernel_rfl
noncomputable def stE (p : Pl) (sec en : Int) : Int := if planMay p then nextE7 p.secs sec en else 8
noncomputable def stN (p : Pl) (sec en : Int) : Int := if stE p sec en = 0 then standsS p.sigs sec en else 0

theorem at1_mem {α : Type} {k : α → Int} {l : List α} {id : Int} (h : ∃ s ∈ l, k s = id) : ∃ i, ∃ hi : i < l.length, at1 k l id = (i : Int) ∧ k l[i] = id := by
 rcases at1_cases k l id with ⟨-, h2⟩ | ⟨i, hi, h1, h2, -⟩
 ·obtain ⟨s, hs, he⟩ := h
  obtain ⟨j, hj, rfl⟩ := List.getElem_of_mem hs
  exact absurd he (h2 j hj)
 ·exact ⟨i, hi, h1, h2⟩
theorem at1_of {α : Type} {k : α → Int} {l : List α} {id : Int} {i : Nat} (h : at1 k l id = (i : Int)) : ∃ hi : i < l.length, k l[i] = id := by
 rcases at1_cases k l id with ⟨h1, -⟩ | ⟨j, hj, h1, h2, -⟩
 ·omega
 ·obtain rfl : j = i := by omega
  exact ⟨hj, h2⟩
theorem rise_of {α : Type} {k : α → Int} {l : List α} (h : ∀ i (h : i < l.length), ∀ j (hj : j + 1 = i), k (l[j]'(by omega)) < k l[i]) : l.Pairwise (fun a b => k a < k b) := by
 refine List.pairwise_iff_getElem.2 fun i j hi hj hlt => ?_
 have main : ∀ d i (hd : i + d + 1 < l.length), k (l[i]'(by omega)) < k l[i + d + 1] := by
  intro d
  induction d with
  | zero => exact fun i hd => h (i + 1) hd i rfl
  | succ d ih => exact fun i hd => Int.lt_trans (ih i (by omega)) (h (i + (d + 1) + 1) hd (i + d + 1) (by omega))
 have e := main (j - i - 1) i (by omega)
 have e2 : i + (j - i - 1) + 1 = j := by omega
 simp only [e2] at e
 exact e
theorem rise_uniq {α : Type} {k : α → Int} {l : List α} (h : l.Pairwise (fun a b => k a < k b)) {s t : α} (hs : s ∈ l) (ht : t ∈ l) (he : k s = k t) : s = t := by
 obtain ⟨i, hi, rfl⟩ := List.getElem_of_mem hs
 obtain ⟨j, hj, rfl⟩ := List.getElem_of_mem ht
 have h' := List.pairwise_iff_getElem.1 h
 rcases Nat.lt_trichotomy i j with hlt | rfl | hlt
 ·have := h' i j hi hj hlt; omega
 ·rfl
 ·have := h' j i hj hi hlt; omega

def namedB (rs : List Rt) (s : Sg) : Bool := rs.any (fun r => decide (r.entry = s.1 ∨ r.exit = s.1))
def fewP (p : Pl) (k : Nat) : Pl := ⟨if p.ver < 2147483647 then p.ver + 1 else p.ver, if p.ver < 2147483647 then p.ver else p.par, p.secs, p.pts, p.sigs.filter (namedB (p.routes.eraseIdx k)), p.routes.eraseIdx k⟩
theorem sigs_parts {p : Pl} (h : SigsMay p) : p.sigs.Pairwise (fun a b => a.1 < b.1 ∧ ¬ (a.2.1 = b.2.1 ∧ a.2.2 = b.2.2)) ∧ ∀ s ∈ p.sigs, 1 ≤ s.1 ∧ s.1 ≤ 99 ∧ ∃ k, ∃ hk : k < p.secs.length, atS p.secs s.2.1 = (k : Int) ∧ 0 ≤ s.2.2 ∧ s.2.2 < p.secs[k].2.2.length := by
 refine ⟨List.pairwise_iff_getElem.2 fun i j hi hj hlt => (h.each j hj).2.2.2 i hlt, fun s hs => ?_⟩
 obtain ⟨i, hi, rfl⟩ := List.getElem_of_mem hs
 exact ⟨(h.each i hi).1, (h.each i hi).2.1, (h.each i hi).2.2.1⟩
theorem few_may {p : Pl} (h : PlanMay p) (k : Nat) : PlanMay (fewP p k) := by
 obtain ⟨hs1, hs2⟩ := sigs_parts h.sigs
 have hsub : (p.sigs.filter (namedB (p.routes.eraseIdx k))).Sublist p.sigs := List.filter_sublist
 have hrs : (p.routes.eraseIdx k).Sublist p.routes := List.eraseIdx_sublist ..
 have hrise : p.sigs.Pairwise (fun a b : Sg => a.1 < b.1) := hs1.imp fun h => h.1
 have hv := h.ver
 have hp := h.par
 have here : ∀ r ∈ p.routes.eraseIdx k, ∀ s ∈ p.sigs, (r.entry = s.1 ∨ r.exit = s.1) → s ∈ p.sigs.filter (namedB (p.routes.eraseIdx k)) := fun r hr s hs he => List.mem_filter.2 ⟨hs, by rw [namedB, List.any_eq_true]; exact ⟨r, hr, decide_eq_true he⟩⟩
 refine ⟨?_, ?_, Nat.le_trans hrs.length_le h.n, h.secs, ⟨h.pts.n, h.pts.many, h.pts.each⟩, ⟨Nat.le_trans hsub.length_le h.sigs.n, fun i hi => ?_⟩, fun i hi => ?_⟩
 ·show 1 ≤ (if p.ver < 2147483647 then p.ver + 1 else p.ver) ∧ (if p.ver < 2147483647 then p.ver + 1 else p.ver) ≤ 2147483647
  split <;> omega
 ·show 0 ≤ (if p.ver < 2147483647 then p.ver else p.par) ∧ (if p.ver < 2147483647 then p.ver else p.par) < (if p.ver < 2147483647 then p.ver + 1 else p.ver)
  split <;> omega
 ·have hm : (fewP p k).sigs[i] ∈ p.sigs := hsub.subset (List.getElem_mem hi)
  obtain ⟨a, b, c⟩ := hs2 _ hm
  exact ⟨a, b, c, fun m hm => List.pairwise_iff_getElem.1 (hs1.sublist hsub) m i (Nat.lt_trans hm hi) hi hm⟩
 ·have hpr : p.routes.Pairwise (fun a b : Rt => a.id < b.id) := rise_of fun i h2 j hj => (h.each i h2).2.1 j hj
  have hm' : (fewP p k).routes[i] ∈ p.routes.eraseIdx k := List.getElem_mem hi
  have hm : (fewP p k).routes[i] ∈ p.routes := hrs.subset hm'
  generalize hr : (fewP p k).routes[i] = r at hm hm'
  obtain ⟨u, hu, rfl⟩ := List.getElem_of_mem hm
  obtain ⟨hid, -, hR⟩ := h.each u hu
  refine ⟨hid, fun j hj => ?_, ?_⟩
  ·rw [← hr]
   exact List.pairwise_iff_getElem.1 (hpr.sublist hrs) j i (Nat.lt_trans (Nat.lt_of_succ_le (Nat.le_of_eq hj)) hi) hi (Nat.lt_of_succ_le (Nat.le_of_eq hj))
  ·obtain ⟨n, hn, hat, hne⟩ := hR.entry
   obtain ⟨_, hne1⟩ := at1_of hat
   have hmem := here _ hm' p.sigs[n] (List.getElem_mem hn) (.inl hne1.symm)
   obtain ⟨i2, hi2, ha2, hk2⟩ := at1_mem (k := fun x : Sg => x.1) ⟨_, hmem, hne1⟩
   have hsame : (p.sigs.filter (namedB (p.routes.eraseIdx k)))[i2] = p.sigs[n] := rise_uniq (k := fun x : Sg => x.1) hrise (hsub.subset (List.getElem_mem hi2)) (List.getElem_mem hn) (hk2.trans hne1.symm)
   refine ⟨⟨i2, hi2, ha2, fun x hx => ?_⟩, fun hx => ⟨?_, (hR.exit hx).2⟩, hR.over0, hR.path, hR.over, hR.flank, hR.timer, hR.secs, hR.flanks⟩
   ·show _ ≠ ((p.sigs.filter (namedB (p.routes.eraseIdx k)))[i2]).2.1
    rw [hsame]
    exact hne x hx
   ·rcases at1_cases (fun x : Sg => x.1) p.sigs p.routes[u].exit with ⟨h1, -⟩ | ⟨j, hj, h1, h2, -⟩
    ·have := (hR.exit hx).1; omega
    ·obtain ⟨i3, hi3, ha3, -⟩ := at1_mem (k := fun x : Sg => x.1) ⟨_, here _ hm' p.sigs[j] (List.getElem_mem hj) (.inr h2.symm), h2⟩
     show 0 ≤ at1 (fun x : Sg => x.1) (p.sigs.filter (namedB (p.routes.eraseIdx k))) p.routes[u].exit
     omega
theorem few_chk {p : Pl} (h : planMay p = true) (k : Nat) : planMay (fewP p k) = true := planMay_true (few_may (planMay_iff.1 h) k)

theorem atS_of {l : List Sec} {id : Int} {i : Nat} (h : atS l id = (i : Int)) : ∃ hi : i < l.length, l[i].1 = id := by
 rcases atS_cases l id with h1 | ⟨j, hj, h1, h2⟩
 ·omega
 ·obtain rfl : j = i := by omega
  exact ⟨hj, h2⟩
theorem place_pt {p : Pl} (h : PlanMay p) (i : Nat) (hi : i < p.pts.length) : ∃ k, ∃ hk : k < p.secs.length, p.secs[k].2.1 = p.pts[i].1 ∧ p.secs[k].1 = p.pts[i].2 ∧ p.secs[k].2.2.length = 3 ∧ ∀ j (hj : j < p.secs.length), p.secs[j].2.1 = p.pts[i].1 → j = k := by
 obtain ⟨h1, -, -, k, hk, hat, hpt⟩ := h.pts.each i hi
 obtain ⟨_, hid⟩ := atS_of hat
 have hne : p.secs[k].2.1 ≠ 0 := by omega
 refine ⟨k, hk, hpt, hid, ?_, fun j hj he => ?_⟩
 ·have hs := (h.secs.s k hk).2.2
  rw [shapedB, if_neg hne] at hs
  simp only [Bool.and_eq_true, decide_eq_true_eq] at hs
  exact hs.2.2
 ·rcases Nat.lt_trichotomy j k with hlt | rfl | hlt
  ·exact absurd ⟨hne, he.trans hpt.symm⟩ (h.secs.k k j hlt hk).2
  ·rfl
  ·exact absurd ⟨by rw [he]; omega, hpt.trans he.symm⟩ (h.secs.k j k hlt hj).2
theorem stE_zero {p : Pl} (h : PlanMay p) {id en : Int} {k : Nat} (hk : k < p.secs.length) (hat : atS p.secs id = (k : Int)) (h0 : 0 ≤ en) (hn : en < p.secs[k].2.2.length) : stE p id en = 0 := by
 have hf : findE7 p.secs id = 0 := by rw [findE7, mayT_true h.secs, if_pos rfl, if_neg (by omega)]
 have hs : findS7 p.secs id = p.secs[k] := by rw [findS7, hf, if_pos rfl, hat]; simp [List.getD, List.getElem?_eq_getElem hk]
 rw [stE, planMay_true h, if_pos rfl, nextE7, hf, if_pos rfl, hs, if_neg (by omega)]
theorem place_sig {p : Pl} (h : PlanMay p) (i : Nat) (hi : i < p.sigs.length) : stE p p.sigs[i].2.1 p.sigs[i].2.2 = 0 ∧ stN p p.sigs[i].2.1 p.sigs[i].2.2 = p.sigs[i].1 := by
 obtain ⟨-, -, ⟨k, hk, hat, h0, hn⟩, hne⟩ := h.sigs.each i hi
 have e := stE_zero h hk hat h0 hn
 exact ⟨e, by rw [stN, e, if_pos rfl]; exact stands_some hi ⟨rfl, rfl⟩ (fun j hj => (hne j hj).2)⟩
theorem shaped_two {s : Sec} (h : shapedB s = true) : 2 ≤ s.2.2.length := by
 rw [shapedB] at h
 split at h
 ·have := of_decide_eq_true h; omega
 ·simp only [Bool.and_eq_true, decide_eq_true_eq] at h; omega
theorem stE_sec {p : Pl} (h : PlanMay p) {id : Int} (h0 : 0 ≤ atS p.secs id) : stE p id 0 = 0 := by
 rcases atS_cases p.secs id with h1 | ⟨k, hk, h1, -⟩
 ·omega
 ·exact stE_zero h hk h1 (Int.le_refl _) (by have := shaped_two (h.secs.s k hk).2.2; omega)
theorem place_route {p : Pl} (h : PlanMay p) (u : Nat) (hu : u < p.routes.length) : elE p kSg p.sigs p.routes[u].entry = 0 ∧
  ∀ i (hi : i < ((elV p kSg p.sigs p.routes[u].entry (0, 0, 0)).2.1 :: (p.routes[u].path ++ p.routes[u].over)).length),
   stE p ((elV p kSg p.sigs p.routes[u].entry (0, 0, 0)).2.1 :: (p.routes[u].path ++ p.routes[u].over))[i] 0 = 0 ∧
   ∀ m (hm : m < i), ((elV p kSg p.sigs p.routes[u].entry (0, 0, 0)).2.1 :: (p.routes[u].path ++ p.routes[u].over))[m] ≠ ((elV p kSg p.sigs p.routes[u].entry (0, 0, 0)).2.1 :: (p.routes[u].path ++ p.routes[u].over))[i] := by
 have hR := (h.each u hu).2.2
 obtain ⟨k, hk, hat, hne⟩ := hR.entry
 obtain ⟨e1, e2⟩ := elE_some (z := ((0, 0, 0) : Sg)) (planMay_true h) hk hat
 refine ⟨e1, fun i hi => ?_⟩
 have e2' : (elV p kSg p.sigs p.routes[u].entry (0, 0, 0)).2.1 = p.sigs[k].2.1 := by rw [e2]
 generalize elV p kSg p.sigs p.routes[u].entry (0, 0, 0) = S at hi e2' ⊢
 cases i with
 | zero =>
  refine ⟨?_, fun m hm => absurd hm (by omega)⟩
  show stE p S.2.1 0 = 0
  obtain ⟨-, -, ⟨k2, hk2, hat2, -, -⟩, -⟩ := h.sigs.each k hk
  rw [e2']
  exact stE_sec h (by omega)
 | succ i =>
  have hi' : i < (p.routes[u].path ++ p.routes[u].over).length := by simpa using hi
  refine ⟨stE_sec h (hR.secs i hi').1, fun m hm => ?_⟩
  cases m with
  | zero => exact fun he => hne i hi' ((show (p.routes[u].path ++ p.routes[u].over)[i] = S.2.1 from he.symm).trans e2')
  | succ m => exact (hR.secs i hi').2 m (by omega)
end Go.Proofs.Ytdldphkofkbmaaa
