/-
 Plans that may run: the mathematics.
 Conditions: none.
-/
import Derived.Test.YtebffdfimmbbdaaGreatQWayProg
import Derived.Test.YtebffdfimmbbdaaGreatQGPlnRefC
set_option linter.unusedVariables false
set_option linter.unusedSimpArgs false
set_option maxRecDepth 100000
namespace Go.Proofs.YtebffdfimmbbdaaGreat
open Go.RowKit

/-- No point is asked twice. -/
def OnceA (l : List Ak) : Prop := ∀ i (hi : i < l.length) k (hk : k < i), (l[k]'(by omega)).1 ≠ l[i].1
/-- What stands at the outs of the path's sections: nothing, but the exit at the last one's. -/
def StandsR (p : Pl) (r : Rt) : Prop := ∀ i (hi : i < r.path.length), (i + 1 < r.path.length → standsS p.sigs r.path[i] (outA p r i) = 0) ∧ (i + 1 = r.path.length → standsS p.sigs r.path[i] (outA p r i) = r.exit)
structure Sound (p : Pl) (r : Rt) : Prop where
 hangs : Hangs p r
 once : OnceA (wayR p r).asks
 stands : StandsR p r
noncomputable def soundB (p : Pl) (r : Rt) : Bool := @decide (Sound p r) (Classical.propDecidable _)
theorem soundB_true {p : Pl} {r : Rt} (h : Sound p r) : soundB p r = true := by rw [soundB]; exact @decide_eq_true _ (Classical.propDecidable _) h
theorem soundB_false {p : Pl} {r : Rt} (h : ¬ Sound p r) : soundB p r = false := by rw [soundB]; exact @decide_eq_false _ (Classical.propDecidable _) h
theorem soundB_iff {p : Pl} {r : Rt} : soundB p r = true ↔ Sound p r := by rw [soundB]; exact @decide_eq_true_iff _ (Classical.propDecidable _)
/-- A plan that may run. -/
structure PlanSound (p : Pl) : Prop where
 may : PlanMay p
 each : ∀ k (hk : k < p.routes.length), Sound p p.routes[k]
noncomputable def soundP (p : Pl) : Bool := @decide (PlanSound p) (Classical.propDecidable _)
theorem soundP_true {p : Pl} (h : PlanSound p) : soundP p = true := by rw [soundP]; exact @decide_eq_true _ (Classical.propDecidable _) h
theorem soundP_false {p : Pl} (h : ¬ PlanSound p) : soundP p = false := by rw [soundP]; exact @decide_eq_false _ (Classical.propDecidable _) h
theorem soundP_iff {p : Pl} : soundP p = true ↔ PlanSound p := by rw [soundP]; exact @decide_eq_true_iff _ (Classical.propDecidable _)
/-- What Check answers, and Route. -/
noncomputable def sndE (p : Pl) : Int := if soundP p then 0 else 100
noncomputable def sndR (p : Pl) (id : Int) : Int := if planMay p then (if at1 kRt p.routes id < 0 then 6 else if soundB p (routeN p id) then 0 else 100) else 8
theorem sndE_zero {p : Pl} : sndE p = 0 ↔ PlanSound p := by
 rw [sndE]
 by_cases h : PlanSound p
 ·rw [soundP_true h, if_pos rfl]; exact ⟨fun _ => h, fun _ => rfl⟩
 ·rw [soundP_false h]; simp [h]
theorem sndE_cases (p : Pl) : (sndE p = 0 ∧ PlanSound p) ∨ (sndE p = 100 ∧ ¬ PlanSound p) := by
 by_cases h : PlanSound p
 ·exact .inl ⟨sndE_zero.2 h, h⟩
 ·exact .inr ⟨by rw [sndE, soundP_false h]; rfl, h⟩
theorem sndR_at {p : Pl} (h : PlanMay p) {k : Nat} (hk : k < p.routes.length) {id : Int} (ha : at1 kRt p.routes id = (k : Int)) : sndR p id = if soundB p p.routes[k] then 0 else 100 := by
 rw [sndR, if_pos (planMay_true h), if_neg (by omega), routeN_at hk ha]
/-- One that isn't once asked, seen at a place. -/
theorem once_not {l : List Ak} {i k : Nat} (hi : i < l.length) (hk : k < i) (h : (l[k]'(by omega)).1 = l[i].1) : ¬ OnceA l := fun ho => ho i hi k hk h
theorem stands_mid {p : Pl} {r : Rt} {i : Nat} (hi : i + 1 < r.path.length) (h : standsS p.sigs (r.path[i]'(by omega)) (outA p r i) ≠ 0) : ¬ StandsR p r := fun hs => h ((hs i (by omega)).1 hi)
theorem stands_last {p : Pl} {r : Rt} {i : Nat} (hi : i < r.path.length) (h1 : i + 1 = r.path.length) (h : standsS p.sigs r.path[i] (outA p r i) ≠ r.exit) : ¬ StandsR p r := fun hs => h ((hs i hi).2 h1)

/-- The plan with these routes in place of its own. -/
def withR (p : Pl) (rs : List Rt) : Pl := ⟨p.ver, p.par, p.secs, p.pts, p.sigs, rs⟩
theorem comes_with (p : Pl) (rs : List Rt) (r : Rt) : ∀ a, comesN (withR p rs) r a = comesN p r a
 | 0 => rfl
 | a + 1 => by
  have ih := comes_with p rs r a
  show (match comesN (withR p rs) r a with
   | none => none
   | some j => _) = _
  rw [ih]
  rfl
theorem out_with (p : Pl) (rs : List Rt) (r : Rt) (a : Nat) : outA (withR p rs) r a = outA p r a := by
 show (if lastB r a then -1 else outN p r a (inN (withR p rs) r a)) = _
 rw [inN, comes_with]
 rfl
theorem hangs_with {p : Pl} {rs : List Rt} {r : Rt} (h : Hangs p r) : Hangs (withR p rs) r := fun i hi => by
 obtain ⟨j, h1, h2⟩ := h i hi
 exact ⟨j, by rw [comes_with]; exact h1, h2⟩
theorem asked_with (p : Pl) (rs : List Rt) (r : Rt) (a : Nat) : askN (withR p rs) r a = askN p r a := by
 have h1 := out_with p rs r a
 have h2 := comes_with p rs r a
 simp only [askN, inN, h1, h2]
 rfl
theorem way_with (p : Pl) (rs : List Rt) (r : Rt) : wayR (withR p rs) r = wayR p r := by
 have h : askN (withR p rs) r = askN p r := funext fun a => asked_with p rs r a
 simp only [wayR, asksL, h]
 rfl
theorem sound_with' {p : Pl} {rs : List Rt} {r : Rt} (h : Sound p r) : Sound (withR p rs) r :=
 ⟨hangs_with h.hangs, by rw [way_with]; exact h.once, fun i hi => by rw [out_with]; exact h.stands i hi⟩
theorem sound_with {p : Pl} {rs : List Rt} {r : Rt} : Sound (withR p rs) r ↔ Sound p r := ⟨fun h => sound_with' (p := withR p rs) (rs := p.routes) h, sound_with'⟩
theorem route_with {p : Pl} {rs : List Rt} {r : Rt} (h : RouteMay p r) : RouteMay (withR p rs) r := ⟨h.entry, h.exit, h.over0, h.path, h.over, h.flank, h.timer, h.secs, h.flanks⟩
theorem may_with {p : Pl} {rs : List Rt} (h : PlanMay p) (hn : rs.length ≤ 16) (hr : ∀ i (hi : i < rs.length), (1 ≤ rs[i].id ∧ rs[i].id ≤ 99) ∧ (∀ j (hj : j + 1 = i), (rs[j]'(by omega)).id < rs[i].id) ∧ RouteMay p rs[i]) : PlanMay (withR p rs) :=
 ⟨h.ver, h.par, hn, h.secs, ⟨h.pts.n, h.pts.many, h.pts.each⟩, ⟨h.sigs.n, h.sigs.each⟩, fun i hi => ⟨(hr i hi).1, (hr i hi).2.1, route_with (hr i hi).2.2⟩⟩
/-- The plan with one of its routes alone. -/
theorem may_sole {p : Pl} (h : PlanMay p) {k : Nat} (hk : k < p.routes.length) : PlanMay (withR p [p.routes[k]]) :=
 may_with h (by simp) fun i hi => by
  obtain rfl : i = 0 := by simpa using hi
  exact ⟨(h.each k hk).1, fun j hj => by omega, (h.each k hk).2.2⟩
theorem sole_iff {p : Pl} (h : PlanMay p) {k : Nat} (hk : k < p.routes.length) : PlanSound (withR p [p.routes[k]]) ↔ Sound p p.routes[k] :=
 ⟨fun hs => sound_with.1 (hs.each 0 Nat.zero_lt_one), fun hs => ⟨may_sole h hk, fun i hi => by
  have hi' : i < 1 := hi
  obtain rfl : i = 0 := by omega
  exact sound_with' hs⟩⟩
theorem sole_snd {p : Pl} (h : PlanMay p) {k : Nat} (hk : k < p.routes.length) {id : Int} (ha : at1 kRt p.routes id = (k : Int)) : sndE (withR p [p.routes[k]]) = sndR p id := by
 rw [sndR_at h hk ha, sndE]
 by_cases hs : Sound p p.routes[k]
 ·rw [soundP_true ((sole_iff h hk).2 hs), soundB_true hs]
 ·rw [soundP_false (fun h2 => hs ((sole_iff h hk).1 h2)), soundB_false hs]

/-- The plan without its route of that place. -/
def cutP (p : Pl) (k : Nat) : Pl := ⟨p.ver, p.par, p.secs, p.pts, p.sigs, p.routes.eraseIdx k⟩
theorem cut_may {p : Pl} (h : PlanMay p) (k : Nat) : PlanMay (cutP p k) := by
 have hrs : (p.routes.eraseIdx k).Sublist p.routes := List.eraseIdx_sublist ..
 refine may_with h (Nat.le_trans hrs.length_le h.n) fun i hi => ?_
 have hpr : p.routes.Pairwise (fun a b : Rt => a.id < b.id) := rise_of fun i h2 j hj => (h.each i h2).2.1 j hj
 have hm : (p.routes.eraseIdx k)[i] ∈ p.routes := hrs.subset (List.getElem_mem hi)
 generalize hr : (p.routes.eraseIdx k)[i] = r at hm
 obtain ⟨u, hu, rfl⟩ := List.getElem_of_mem hm
 obtain ⟨hid, -, hR⟩ := h.each u hu
 refine ⟨hid, fun j hj => ?_, hR⟩
 rw [← hr]
 exact List.pairwise_iff_getElem.1 (hpr.sublist hrs) j i (by omega) hi (by omega)
theorem plan_cut {p : Pl} (h : PlanSound p) (k : Nat) : PlanSound (cutP p k) :=
 ⟨cut_may h.may k, fun i hi => by
  have hm : (cutP p k).routes[i] ∈ p.routes := (List.eraseIdx_sublist p.routes k).subset (List.getElem_mem hi)
  generalize (cutP p k).routes[i] = r at hm
  obtain ⟨u, hu, rfl⟩ := List.getElem_of_mem hm
  exact sound_with' (h.each u hu)⟩
/-- Routes of one entry begin with one section. -/
theorem entry_first {p : Pl} {x y : Rt} (hx : Hangs p x) (hy : Hangs p y) (he : x.entry = y.entry) (h1 : 0 < x.path.length) (h2 : 0 < y.path.length) : x.path[0] = y.path[0] := by
 obtain ⟨j, a1, a2, -⟩ := hx 0 (by rw [allR, List.length_append]; omega)
 obtain ⟨i, b1, b2, -⟩ := hy 0 (by rw [allR, List.length_append]; omega)
 rw [comesN, he] at a1
 rw [comesN] at b1
 have e : j = i := Option.some.inj (a1.symm.trans b1)
 have c1 : (allR x).getD 0 0 = x.path[0] := by rw [allR, List.getD, List.getElem?_append_left h1, List.getElem?_eq_getElem h1]; rfl
 have c2 : (allR y).getD 0 0 = y.path[0] := by rw [allR, List.getD, List.getElem?_append_left h2, List.getElem?_eq_getElem h2]; rfl
 rw [← c1, ← c2, ← a2, ← b2, e]

/-- What the program's package sound answers: to be proved over the program's own text; the walks of the statements take it. -/
structure SndSaid : Prop where
 check : ∀ (v : Value) (p : Pl) (w : World), PlanV w w.heap.size v p →
  Calls Tryz.prog 14 #[v] w fun e w' => e = .returned (.int .i64 (sndE p)) ∧ Below w.heap.size w w'

theorem el_at {p : Pl} {id : Int} (h : elE p kRt p.routes id = 0) : ∃ k, ∃ hk : k < p.routes.length, PlanMay p ∧ elV p kRt p.routes id zRt = p.routes[k] ∧ at1 kRt p.routes id = (k : Int) := by
 by_cases hm : planMay p = true
 ·rcases at1_cases kRt p.routes id with h1 | ⟨k, hk, h1, -⟩
  ·rw [(elE_none (z := zRt) hm (by omega)).1] at h; cases h
  ·exact ⟨k, hk, planMay_iff.1 hm, (elE_some hm hk h1).2, h1⟩
 ·rw [(elE_bad (k := kRt) (l := p.routes) (id := id) (z := zRt) (by simpa using hm)).1] at h; cases h
theorem snd_err {p : Pl} {id E : Int} (h : elE p kRt p.routes id = E) (h0 : E ≠ 0) : sndR p id = E := by
 rw [← h] at h0 ⊢
 rw [elE] at h0 ⊢
 rw [sndR]
 split
 ·rename_i hm
  rw [if_pos hm] at h0
  split
  ·rfl
  ·rename_i h1; rw [if_neg h1] at h0; exact absurd rfl h0
 ·rfl
end Go.Proofs.YtebffdfimmbbdaaGreat
