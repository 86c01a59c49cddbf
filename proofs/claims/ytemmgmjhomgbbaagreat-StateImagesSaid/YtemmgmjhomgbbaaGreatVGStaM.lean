/-
 States: what a route holds and asks in one, which states may be, images, what is kept: plain.
 Conditions: none.
-/
import Derived.Test.YtemmgmjhomgbbaaGreatVSndM
set_option linter.unusedVariables false
set_option linter.unusedSimpArgs false
set_option maxRecDepth 100000
namespace Go.Proofs.YtemmgmjhomgbbaaGreat
open Go.RowKit

/-- A section's number, and what is known of it. -/
abbrev Trk := Int × Int
/-- A point's number, how it lies, how it was called. -/
abbrev Swi := Int × Int × Int
/-- A route's number, its phase, how many sections are given up, how many ticks are left. -/
abbrev Lck := Int × Int × Int × Int
structure St15 where
 tr : List Trk
 sw : List Swi
 lk : List Lck
/-- What a route holds. -/
def heldL (r : Rt) (l : Lck) : List Int := if l.2.1 = 0 then [] else r.path.drop l.2.2.1.toNat ++ r.over
/-- Whether an ask still stands when so many sections are given up. -/
def standsA (gone : Int) (x : Ak) : Bool := decide (x.2.2 < 0) || decide (gone ≤ x.2.2)
/-- What it asks. -/
def askedL (p : Pl) (r : Rt) (l : Lck) : List Ak := if l.2.1 = 0 then [] else (wayR p r).asks.filter (standsA l.2.2.1)
/-- A lock's numbers, as its phase has them. -/
def PhaseM (l : Lck) (n timer : Int) : Prop :=
 ((l.2.1 = 0 ∨ l.2.1 = 1) ∧ l.2.2.1 = 0 ∧ l.2.2.2 = 0) ∨ (l.2.1 = 2 ∧ (0 ≤ l.2.2.1 ∧ l.2.2.1 < n) ∧ l.2.2.2 = 0) ∨
 (l.2.1 = 3 ∧ l.2.2.1 = n - 1 ∧ 1 ≤ l.2.2.2 ∧ l.2.2.2 ≤ timer) ∨ (l.2.1 = 4 ∧ l.2.2.1 = 0 ∧ 1 ≤ l.2.2.2 ∧ l.2.2.2 ≤ timer)
instance (l : Lck) (n timer : Int) : Decidable (PhaseM l n timer) := by unfold PhaseM; infer_instance
def phaseB (l : Lck) (n timer : Int) : Bool := decide (PhaseM l n timer)
/-- A state's parts are those of a plan, each as it may be. -/
structure PartsM (p : Pl) (s : St15) : Prop where
 nt : s.tr.length = p.secs.length
 ns : s.sw.length = p.pts.length
 nl : s.lk.length = p.routes.length
 tr : ∀ i (h : i < s.tr.length), s.tr[i].1 = (p.secs[i]'(by omega)).1 ∧ s.tr[i].2 ≤ 2
 sw : ∀ i (h : i < s.sw.length), s.sw[i].1 = (p.pts[i]'(by omega)).1 ∧ (0 ≤ s.sw[i].2.1 ∧ s.sw[i].2.1 ≤ 2) ∧ 0 ≤ s.sw[i].2.2 ∧ s.sw[i].2.2 ≤ 2
 lk : ∀ i (h : i < s.lk.length), s.lk[i].1 = (p.routes[i]'(by omega)).id ∧ PhaseM s.lk[i] (p.routes[i]'(by omega)).path.length (p.routes[i]'(by omega)).timer
def rtN (p : Pl) (i : Nat) : Rt := p.routes.getD i ⟨0, 0, 0, [], [], [], 0⟩
def lkN (s : St15) (i : Nat) : Lck := s.lk.getD i (0, 0, 0, 0)
/-- What the route at place i holds, and asks. -/
def heldN (p : Pl) (s : St15) (i : Nat) : List Int := heldL (rtN p i) (lkN s i)
def askedN (p : Pl) (s : St15) (i : Nat) : List Ak := askedL p (rtN p i) (lkN s i)
/-- How a point was called. -/
def callN (p : Pl) (s : St15) (pt : Int) : Int := (s.sw.getD (at1 (fun x : Jn => x.1) p.pts pt).toNat (0, 0, 0)).2.2
structure StMay (p : Pl) (s : St15) : Prop where
 sound : PlanSound p
 parts : PartsM p s
 held : ∀ i k, i < s.lk.length → k < i → ∀ x, x ∈ heldN p s k → x ∉ heldN p s i
 asked : ∀ i, i < s.lk.length → ∀ x ∈ askedN p s i, callN p s x.1 = x.2.1
noncomputable def stMay (p : Pl) (s : St15) : Bool := @decide (StMay p s) (Classical.propDecidable _)
theorem stMay_iff {p : Pl} {s : St15} : stMay p s = true ↔ StMay p s := by rw [stMay]; exact @decide_eq_true_iff _ (Classical.propDecidable _)
theorem stMay_no {p : Pl} {s : St15} : stMay p s = false ↔ ¬ StMay p s := by rw [← Bool.not_eq_true, stMay_iff]
noncomputable def staE (p : Pl) (s : St15) : Int := if soundP p then (if stMay p s then 0 else 8) else 100
/-- Who holds a section; what is asked of a point: the first that does. -/
def whoL (p : Pl) (s : St15) (sec : Int) : Int := match (List.range s.lk.length).find? fun i => decide (sec ∈ heldN p s i) with
 | some i => (lkN s i).1
 | none => 0
def lieL (p : Pl) (s : St15) (pt : Int) : Int := match ((List.range s.lk.length).flatMap (askedN p s)).find? fun x => decide (x.1 = pt) with
 | some x => x.2.1
 | none => 0
noncomputable def whoE (p : Pl) (s : St15) (sec : Int) : Int := if staE p s = 0 then (if sec ∈ p.secs.map (·.1) then 0 else 6) else staE p s
noncomputable def whoV (p : Pl) (s : St15) (sec : Int) : Int := if whoE p s sec = 0 then whoL p s sec else 0
noncomputable def lieE (p : Pl) (s : St15) (pt : Int) : Int := if staE p s = 0 then (if pt ∈ p.pts.map (·.1) then 0 else 6) else staE p s
noncomputable def lieV (p : Pl) (s : St15) (pt : Int) : Int := if lieE p s pt = 0 then lieL p s pt else 0
/-- The state in which all is at rest. -/
def restS (p : Pl) : St15 := ⟨p.secs.map fun x => (x.1, 2), p.pts.map fun x => (x.1, 0, 0), p.routes.map fun r => (r.id, 0, 0, 0)⟩
def noS : St15 := ⟨[], [], []⟩
noncomputable def restE (p : Pl) : Int := if soundP p then 0 else 100
noncomputable def restV (p : Pl) : St15 := if soundP p then restS p else noS
/-- What a loss of power leaves. -/
def fallL (p : Pl) (l : Lck × Nat) : Lck := if l.1.2.1 = 3 ∨ l.1.2.1 = 4 then (l.1.1, l.1.2.1, l.1.2.2.1, (rtN p l.2).timer) else l.1
def imageS (p : Pl) (s : St15) : St15 := ⟨s.tr.map fun x => (x.1, 2), s.sw.map fun x => (x.1, 0, x.2.2), s.lk.zipIdx.map (fallL p)⟩
noncomputable def imageV (p : Pl) (s : St15) : St15 := if staE p s = 0 then imageS p s else noS
/-- What is kept. -/
def keptS (s : St15) : List (Int × Int) × List (Int × Int × Int) := (s.sw.map fun x => (x.1, x.2.2), s.lk.map fun x => (x.1, x.2.1, x.2.2.1))

theorem rtN_at {p : Pl} {i : Nat} (h : i < p.routes.length) : rtN p i = p.routes[i] := by rw [rtN, List.getD, List.getElem?_eq_getElem h, Option.getD_some]
theorem lkN_at {s : St15} {i : Nat} (h : i < s.lk.length) : lkN s i = s.lk[i] := by rw [lkN, List.getD, List.getElem?_eq_getElem h, Option.getD_some]
theorem ids_rise {p : Pl} (h : PlanMay p) : ∀ (i j : Nat) (hj : j < i) (hi : i < p.routes.length), (p.routes[j]'(by omega)).id < p.routes[i].id := fun i j hj hi => by
 obtain ⟨d, rfl⟩ : ∃ d, i = j + d + 1 := ⟨i - j - 1, by omega⟩
 induction d with
 | zero => exact (h.each (j + 0 + 1) hi).2.1 j rfl
 | succ d ih => exact Int.lt_trans (ih (by omega) (by omega)) ((h.each (j + (d + 1) + 1) hi).2.1 (j + d + 1) (by omega))
theorem rtId {p : Pl} {s : St15} (h : PartsM p s) {i : Nat} (hi : i < s.lk.length) : (lkN s i).1 = (rtN p i).id := by
 rw [lkN_at hi, rtN_at (by have := h.nl; omega)]
 exact (h.lk i hi).1
theorem lk_inj {p : Pl} {s : St15} (hm : PlanMay p) (h : PartsM p s) {i j : Nat} (hi : i < s.lk.length) (hj : j < s.lk.length) (e : (lkN s i).1 = (lkN s j).1) : i = j := by
 have hl := h.nl
 rw [rtId h hi, rtId h hj, rtN_at (by omega), rtN_at (by omega)] at e
 rcases Nat.lt_trichotomy i j with g | g | g
 ·have := ids_rise hm j i g (by omega); omega
 ·exact g
 ·have := ids_rise hm i j g (by omega); omega
theorem lk_pos {p : Pl} {s : St15} (hm : PlanMay p) (h : PartsM p s) {i : Nat} (hi : i < s.lk.length) : 1 ≤ (lkN s i).1 := by
 have hl := h.nl
 rw [rtId h hi, rtN_at (by omega)]
 exact (hm.each i (by omega)).1.1
theorem held_apart {p : Pl} {s : St15} (h : StMay p s) {i j : Nat} (hi : i < s.lk.length) (hj : j < s.lk.length) {x : Int} (h1 : x ∈ heldN p s i) (h2 : x ∈ heldN p s j) : i = j := by
 rcases Nat.lt_trichotomy i j with g | g | g
 ·exact absurd h2 (h.held j i hj g x h1)
 ·exact g
 ·exact absurd h1 (h.held i j hi g x h2)
/-- Who holds. -/
theorem who_iff {p : Pl} {s : St15} (h : StMay p s) {i : Nat} (hi : i < s.lk.length) (sec : Int) : whoL p s sec = (lkN s i).1 ↔ sec ∈ heldN p s i := by
 have hm := h.sound.may
 unfold whoL
 cases hf : (List.range s.lk.length).find? fun i => decide (sec ∈ heldN p s i) with
 | some j =>
  have h1 : sec ∈ heldN p s j := by simpa using List.find?_some hf
  have h2 := List.mem_range.1 (List.mem_of_find?_eq_some hf)
  constructor
  ·intro e
   have := lk_inj hm h.parts h2 hi e
   subst this; exact h1
  ·intro g
   rw [held_apart h h2 hi h1 g]
 | none =>
  constructor
  ·intro e
   have := lk_pos hm h.parts hi
   have e' : (0 : Int) = (lkN s i).1 := e
   omega
  ·intro g
   exact absurd (decide_eq_true g) (List.find?_eq_none.1 hf i (List.mem_range.2 hi))
theorem who_none {p : Pl} {s : St15} {sec : Int} (h : ∀ i, i < s.lk.length → sec ∉ heldN p s i) : whoL p s sec = 0 := by
 unfold whoL
 rw [List.find?_eq_none.2 fun i hi => by simpa using h i (List.mem_range.1 hi)]
theorem asked_mem {p : Pl} {s : St15} {x : Ak} : x ∈ (List.range s.lk.length).flatMap (askedN p s) ↔ ∃ i, i < s.lk.length ∧ x ∈ askedN p s i := by
 rw [List.mem_flatMap]
 exact ⟨fun ⟨i, h1, h2⟩ => ⟨i, List.mem_range.1 h1, h2⟩, fun ⟨i, h1, h2⟩ => ⟨i, List.mem_range.2 h1, h2⟩⟩
/-- What is asked. -/
theorem lie_of {p : Pl} {s : St15} (h : StMay p s) {i : Nat} (hi : i < s.lk.length) {a : Ak} (ha : a ∈ askedN p s i) : lieL p s a.1 = a.2.1 := by
 unfold lieL
 cases hf : ((List.range s.lk.length).flatMap (askedN p s)).find? fun x => decide (x.1 = a.1) with
 | some x =>
  have h1 : x.1 = a.1 := of_decide_eq_true (List.find?_some (p := fun x : Ak => decide (x.1 = a.1)) hf)
  obtain ⟨j, hj, h2⟩ := asked_mem.1 (List.mem_of_find?_eq_some hf)
  show x.2.1 = a.2.1
  rw [← h.asked j hj x h2, ← h.asked i hi a ha, h1]
 | none => exact absurd (decide_eq_true (rfl : a.1 = a.1)) (List.find?_eq_none.1 hf a (asked_mem.2 ⟨i, hi, ha⟩))
theorem lie_none {p : Pl} {s : St15} {pt : Int} (h : ∀ i, i < s.lk.length → ∀ x ∈ askedN p s i, x.1 ≠ pt) : lieL p s pt = 0 := by
 unfold lieL
 rw [List.find?_eq_none.2 fun x hx => by
  obtain ⟨i, hi, h2⟩ := asked_mem.1 hx
  simpa using h i hi x h2]

/-! ### Images -/
theorem image_lk {p : Pl} {s : St15} {i : Nat} (hi : i < s.lk.length) : lkN (imageS p s) i = fallL p (lkN s i, i) := by
 have hl : i < (imageS p s).lk.length := by simp [imageS, hi]
 rw [lkN_at hl, lkN_at hi]
 simp [imageS]
theorem image_len (p : Pl) (s : St15) : (imageS p s).lk.length = s.lk.length ∧ (imageS p s).sw.length = s.sw.length ∧ (imageS p s).tr.length = s.tr.length := by simp [imageS]
theorem fall_same (p : Pl) (l : Lck) (i : Nat) : (fallL p (l, i)).1 = l.1 ∧ (fallL p (l, i)).2.1 = l.2.1 ∧ (fallL p (l, i)).2.2.1 = l.2.2.1 := by
 unfold fallL
 split <;> exact ⟨rfl, rfl, rfl⟩
theorem held_same {p : Pl} {r : Rt} {l l' : Lck} (h1 : l'.2.1 = l.2.1) (h2 : l'.2.2.1 = l.2.2.1) : heldL r l' = heldL r l := by unfold heldL; rw [h1, h2]
theorem asked_same {p : Pl} {r : Rt} {l l' : Lck} (h1 : l'.2.1 = l.2.1) (h2 : l'.2.2.1 = l.2.2.1) : askedL p r l' = askedL p r l := by unfold askedL; rw [h1, h2]
theorem image_held {p : Pl} {s : St15} {i : Nat} (hi : i < s.lk.length) : heldN p (imageS p s) i = heldN p s i := by
 unfold heldN
 rw [image_lk hi]
 exact held_same (p := p) (fall_same p _ i).2.1 (fall_same p _ i).2.2
theorem image_asked {p : Pl} {s : St15} {i : Nat} (hi : i < s.lk.length) : askedN p (imageS p s) i = askedN p s i := by
 unfold askedN
 rw [image_lk hi]
 exact asked_same (fall_same p _ i).2.1 (fall_same p _ i).2.2
theorem image_call (p : Pl) (s : St15) (pt : Int) : callN p (imageS p s) pt = callN p s pt := by
 unfold callN imageS
 dsimp only
 rw [List.getD, List.getD, List.getElem?_map]
 cases s.sw[(at1 (fun x : Jn => x.1) p.pts pt).toNat]? <;> rfl
theorem fall_phase {p : Pl} {l : Lck} {i : Nat} {n timer : Int} (h : PhaseM l n timer) (ht : (rtN p i).timer = timer) : PhaseM (fallL p (l, i)) n timer := by
 unfold fallL
 split
 ·rename_i hc
  unfold PhaseM at h ⊢
  dsimp only at hc ⊢
  rcases h with ⟨h1, h2⟩ | ⟨h1, h2⟩ | ⟨h1, h2, h3, h4⟩ | ⟨h1, h2, h3, h4⟩
  ·omega
  ·omega
  ·exact .inr (.inr (.inl ⟨h1, h2, by omega, by omega⟩))
  ·exact .inr (.inr (.inr ⟨h1, h2, by omega, by omega⟩))
 ·exact h
theorem image_may {p : Pl} {s : St15} (h : StMay p s) : StMay p (imageS p s) := by
 have hp := h.parts
 have hl := image_len p s
 refine ⟨h.sound, ⟨hl.2.2.trans hp.nt, hl.2.1.trans hp.ns, hl.1.trans hp.nl, fun i hi => ?_, fun i hi => ?_, fun i hi => ?_⟩, fun i k hi hk x h1 => ?_, fun i hi x hx => ?_⟩
 ·have hi' : i < s.tr.length := by rw [← hl.2.2]; exact hi
  simp only [imageS, List.getElem_map]
  exact ⟨(hp.tr i hi').1, by decide⟩
 ·have hi' : i < s.sw.length := by rw [← hl.2.1]; exact hi
  simp only [imageS, List.getElem_map]
  exact ⟨(hp.sw i hi').1, by decide, (hp.sw i hi').2.2⟩
 ·have hi' : i < s.lk.length := by rw [← hl.1]; exact hi
  have e := image_lk (p := p) hi'
  rw [lkN_at hi, lkN_at hi'] at e
  rw [e]
  refine ⟨(fall_same p _ i).1.trans (hp.lk i hi').1, fall_phase (hp.lk i hi').2 ?_⟩
  rw [rtN_at (by have := hp.nl; omega)]
 ·rw [hl.1] at hi
  rw [image_held hi]
  rw [image_held (by omega)] at h1
  exact h.held i k hi hk x h1
 ·rw [hl.1] at hi
  rw [image_asked hi] at hx
  rw [image_call]
  exact h.asked i hi x hx
theorem find_congr15 {α : Type} {f g : α → Bool} : ∀ (l : List α), (∀ x ∈ l, f x = g x) → l.find? f = l.find? g
 | [], _ => rfl
 | a :: l, h => by
  rw [List.find?_cons, List.find?_cons, h a (List.mem_cons_self ..), find_congr15 l fun x hx => h x (List.mem_cons_of_mem _ hx)]
theorem flat_congr15 {α β : Type} {f g : α → List β} : ∀ (l : List α), (∀ x ∈ l, f x = g x) → l.flatMap f = l.flatMap g
 | [], _ => rfl
 | a :: l, h => by
  rw [List.flatMap_cons, List.flatMap_cons, h a (List.mem_cons_self ..), flat_congr15 l fun x hx => h x (List.mem_cons_of_mem _ hx)]
theorem image_who (p : Pl) (s : St15) (sec : Int) : whoL p (imageS p s) sec = whoL p s sec := by
 unfold whoL
 rw [(image_len p s).1, find_congr15 (g := fun i => decide (sec ∈ heldN p s i)) _ fun i hi => by rw [image_held (List.mem_range.1 hi)]]
 cases hf : (List.range s.lk.length).find? fun i => decide (sec ∈ heldN p s i) with
 | some j =>
  have h2 := List.mem_range.1 (List.mem_of_find?_eq_some hf)
  show (lkN (imageS p s) j).1 = (lkN s j).1
  rw [image_lk h2]
  exact (fall_same p _ j).1
 | none => rfl
theorem image_lie (p : Pl) (s : St15) (pt : Int) : lieL p (imageS p s) pt = lieL p s pt := by
 unfold lieL
 rw [(image_len p s).1, flat_congr15 (g := askedN p s) _ fun i hi => image_asked (List.mem_range.1 hi)]
theorem fall_fall (p : Pl) (l : Lck) (i : Nat) : fallL p (fallL p (l, i), i) = fallL p (l, i) := by
 have h := fall_same p l i
 by_cases hc : l.2.1 = 3 ∨ l.2.1 = 4
 ·have e : fallL p (l, i) = (l.1, l.2.1, l.2.2.1, (rtN p i).timer) := by rw [fallL, if_pos hc]
  rw [e, fallL, if_pos hc]
 ·have e : fallL p (l, i) = l := by rw [fallL, if_neg hc]
  rw [e, e]
theorem image_image (p : Pl) (s : St15) : imageS p (imageS p s) = imageS p s := by
 unfold imageS
 congr 1
 ·simp
 ·simp
 ·refine List.ext_getElem (by simp) fun i h1 h2 => ?_
  simp only [List.getElem_map, List.getElem_zipIdx, Nat.zero_add]
  exact fall_fall p _ i
theorem image_kept (p : Pl) (s : St15) : keptS (imageS p s) = keptS s := by
 unfold keptS imageS
 congr 1
 ·simp
 ·refine List.ext_getElem (by simp) fun i h1 h2 => ?_
  simp only [List.getElem_map, List.getElem_zipIdx, Nat.zero_add]
  have h := fall_same p (s.lk[i]'(by simpa using h2)) i
  rw [h.1, h.2.1, h.2.2]
theorem image_left {p : Pl} {s : St15} (h : StMay p s) {i : Nat} (hi : i < s.lk.length) : (lkN s i).2.2.2 ≤ (lkN (imageS p s) i).2.2.2 ∧ (0 < (lkN (imageS p s) i).2.2.2 ↔ 0 < (lkN s i).2.2.2) := by
 rw [image_lk hi]
 have hp := h.parts.lk i hi
 rw [← lkN_at hi] at hp
 have hr : i < p.routes.length := by have := h.parts.nl; omega
 have ht : (rtN p i).timer = (p.routes[i]).timer := by rw [rtN_at hr]
 unfold fallL
 split
 ·rename_i hc
  dsimp only at hc ⊢
  rw [ht]
  unfold PhaseM at hp
  rcases hp.2 with ⟨h1, h2⟩ | ⟨h1, h2⟩ | ⟨h1, h2, h3, h4⟩ | ⟨h1, h2, h3, h4⟩ <;> omega
 ·exact ⟨Int.le_refl _, Iff.rfl⟩

/-! ### Rest -/
theorem rest_lk {p : Pl} {i : Nat} (hi : i < p.routes.length) : lkN (restS p) i = (p.routes[i].id, 0, 0, 0) := by
 rw [lkN_at (by simpa [restS] using hi)]
 simp [restS]
theorem rest_held {p : Pl} {i : Nat} (hi : i < p.routes.length) : heldN p (restS p) i = [] := by unfold heldN heldL; rw [rest_lk hi]; rfl
theorem rest_asked {p : Pl} {i : Nat} (hi : i < p.routes.length) : askedN p (restS p) i = [] := by unfold askedN askedL; rw [rest_lk hi]; rfl
theorem restS_len (p : Pl) : (restS p).lk.length = p.routes.length ∧ (restS p).sw.length = p.pts.length ∧ (restS p).tr.length = p.secs.length := by simp [restS]
theorem rest_parts (p : Pl) : PartsM p (restS p) := by
 refine ⟨by simp [restS], by simp [restS], by simp [restS], fun i hi => ?_, fun i hi => ?_, fun i hi => ?_⟩
 ·simp [restS]
 ·simp [restS]
 ·simp [restS, PhaseM]
theorem rest_may {p : Pl} (h : PlanSound p) : StMay p (restS p) := by
 refine ⟨h, rest_parts p, fun i k hi hk x h1 => ?_, fun i hi x hx => ?_⟩
 ·rw [(restS_len p).1] at hi
  rw [rest_held (by omega)] at h1
  cases h1
 ·rw [(restS_len p).1] at hi
  rw [rest_asked hi] at hx
  cases hx
end Go.Proofs.YtemmgmjhomgbbaaGreat
