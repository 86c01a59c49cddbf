/-
 States: one route set where all else is at rest; states with another part, one more, one fewer.
 Conditions: none.
-/
import Derived.Test.YtemmgmjhomgbbaaQGStaM
import Derived.Test.YtemmgmjhomgbbaaQGWayAsM
set_option linter.unusedVariables false
set_option linter.unusedSimpArgs false
set_option maxRecDepth 100000
namespace Go.Proofs.Ytemmgmjhomgbbaa
open Go.RowKit

theorem at1_mem15 {α : Type} {k : α → Int} {l : List α} {id : Int} (h : 0 ≤ at1 k l id) : id ∈ l.map k := by
 rcases at1_cases k l id with ⟨h1, -⟩ | ⟨j, hj, h1, h2, -⟩
 ·omega
 ·exact List.mem_map.2 ⟨_, List.getElem_mem hj, h2⟩
theorem mem_at15 {α : Type} {k : α → Int} {l : List α} {id : Int} (h : id ∈ l.map k) : ∃ j, ∃ hj : j < l.length, at1 k l id = (j : Int) ∧ k l[j] = id := by
 rcases at1_cases k l id with ⟨-, h2⟩ | ⟨j, hj, h1, h2, -⟩
 ·obtain ⟨x, hx, e⟩ := List.mem_map.1 h
  obtain ⟨j, hj, rfl⟩ := List.getElem_of_mem hx
  exact absurd e (h2 j hj)
 ·exact ⟨j, hj, h1, h2⟩
/-- What is asked is of a point of the plan, to lie one way or the other. -/
theorem ask_in {p : Pl} {r : Rt} (hr : RouteIn p r) (hh : Hangs p r) {a : Ak} (ha : a ∈ (wayR p r).asks) : a.1 ∈ p.pts.map (fun x : Jn => x.1) ∧ 1 ≤ a.2.1 ∧ a.2.1 ≤ 2 := by
 rcases List.mem_append.1 ha with ha | ha
 ·obtain ⟨i, hi, rfl⟩ := List.getElem_of_mem ha
  obtain ⟨n, hn, -, h0, h1, h2, h3, -⟩ := asks_at hr _ (Nat.le_refl _) hh i hi
  refine ⟨?_, h2, h3⟩
  have hs := (hr.route.secs n hn).1
  have e : (allR r).getD n 0 = (r.path ++ r.over)[n]'hn := by
   rw [List.getD, List.getElem?_eq_getElem (show n < (allR r).length from hn), Option.getD_some]
   rfl
  rw [← e] at hs
  rcases at1_cases (fun s : Sec => s.1) p.secs ((allR r).getD n 0) with ⟨g1, -⟩ | ⟨k, hk, g1, -⟩
  ·have : atS p.secs ((allR r).getD n 0) = -1 := g1
   omega
  ·have g2 : atS p.secs ((allR r).getD n 0) = (k : Int) := g1
   rw [secN_at hk g2] at h1
   rw [h1] at h0 ⊢
   obtain ⟨j, hj, hat, -⟩ := ((pts_iff hr.plan.secs).1 hr.plan.pts).each k hk h0
   exact at1_mem15 (by rw [hat]; omega)
 ·obtain ⟨f, hf, rfl⟩ := List.mem_map.1 ha
  obtain ⟨j, hj, rfl⟩ := List.getElem_of_mem hf
  have h1 := hr.route.flanks j hj
  exact ⟨at1_mem15 h1.1, h1.2.2.1, h1.2.2.2⟩
/-- One route set, all else at rest, the points called as f says. -/
def setS (p : Pl) (i : Nat) (f : Int → Int) : St15 := ⟨p.secs.map fun x => (x.1, 2), p.pts.map fun x => (x.1, 0, f x.1), (p.routes.map fun r => (r.id, 0, 0, 0)).set i ((rtN p i).id, 1, 0, 0)⟩
theorem set_len (p : Pl) (i : Nat) (f : Int → Int) : (setS p i f).lk.length = p.routes.length ∧ (setS p i f).sw.length = p.pts.length ∧ (setS p i f).tr.length = p.secs.length := by simp [setS]
theorem set_lk {p : Pl} {i j : Nat} {f : Int → Int} (hj : j < p.routes.length) : lkN (setS p i f) j = (p.routes[j].id, if j = i then 1 else 0, 0, 0) := by
 have hl : j < (setS p i f).lk.length := by rw [(set_len p i f).1]; exact hj
 rw [lkN_at hl]
 simp only [setS, List.getElem_set]
 by_cases e : i = j
 ·subst e
  rw [if_pos rfl, if_pos rfl, rtN_at hj]
 ·rw [if_neg e, if_neg (Ne.symm e)]
  simp
theorem set_held {p : Pl} {i j : Nat} {f : Int → Int} (hj : j < p.routes.length) (hne : j ≠ i) : heldN p (setS p i f) j = [] := by unfold heldN heldL; rw [set_lk hj, if_neg hne]; rfl
theorem set_asked {p : Pl} {i j : Nat} {f : Int → Int} (hj : j < p.routes.length) (hne : j ≠ i) : askedN p (setS p i f) j = [] := by unfold askedN askedL; rw [set_lk hj, if_neg hne]; rfl
theorem set_asked_at {p : Pl} {i : Nat} {f : Int → Int} (hi : i < p.routes.length) : askedN p (setS p i f) i = (wayR p p.routes[i]).asks := by
 unfold askedN askedL
 rw [set_lk hi, if_pos rfl, rtN_at hi, if_neg (by simp)]
 refine List.filter_eq_self.2 fun x _ => ?_
 unfold standsA
 rw [← Bool.decide_or]
 exact decide_eq_true (by dsimp only; omega)
theorem set_call {p : Pl} {i : Nat} {f : Int → Int} {pt : Int} (h : pt ∈ p.pts.map (fun x : Jn => x.1)) : callN p (setS p i f) pt = f pt := by
 obtain ⟨j, hj, hat, e⟩ := mem_at15 h
 unfold callN
 rw [hat, Int.toNat_natCast]
 have hl : j < (setS p i f).sw.length := by rw [(set_len p i f).2.1]; exact hj
 rw [List.getD, List.getElem?_eq_getElem hl, Option.getD_some]
 simp only [setS, List.getElem_map]
 rw [e]
theorem set_parts {p : Pl} {i : Nat} {f : Int → Int} (hi : i < p.routes.length) (hf : ∀ pt, 0 ≤ f pt ∧ f pt ≤ 2) : PartsM p (setS p i f) := by
 refine ⟨by simp [setS], by simp [setS], by simp [setS], fun j hj => ?_, fun j hj => ?_, fun j hj => ?_⟩
 ·simp [setS]
 ·have := hf (p.pts[j]'(by rw [(set_len p i f).2.1] at hj; exact hj)).1
  simp only [setS, List.getElem_map]
  exact ⟨trivial, by decide, this⟩
 ·have hj' : j < p.routes.length := by rw [(set_len p i f).1] at hj; exact hj
  have e := set_lk (i := i) (f := f) hj'
  rw [lkN_at hj] at e
  rw [e]
  refine ⟨rfl, .inl ⟨?_, rfl, rfl⟩⟩
  dsimp only
  split
  ·exact .inr rfl
  ·exact .inl rfl
theorem set_may {p : Pl} (h : PlanSound p) {i : Nat} {f : Int → Int} (hi : i < p.routes.length) (hf : ∀ pt, 0 ≤ f pt ∧ f pt ≤ 2) (ha : ∀ a ∈ (wayR p p.routes[i]).asks, f a.1 = a.2.1) : StMay p (setS p i f) := by
 refine ⟨h, set_parts hi hf, fun j k hj hk x h1 => ?_, fun j hj x hx => ?_⟩
 ·rw [(set_len p i f).1] at hj
  by_cases e : j = i
  ·rw [set_held (by omega) (by omega)] at h1; cases h1
  ·rw [set_held hj e]; simp
 ·rw [(set_len p i f).1] at hj
  by_cases e : j = i
  ·subst e
   rw [set_asked_at hj] at hx
   have hin := ask_in (routeIn_of h.may hj rfl) (h.each j hj).hangs hx
   rw [set_call hin.1, ha x hx]
  ·rw [set_asked hj e] at hx; cases hx
theorem set_bad {p : Pl} (h : PlanSound p) {i : Nat} (hi : i < p.routes.length) (hne : (wayR p p.routes[i]).asks ≠ []) : ¬ StMay p (setS p i fun _ => 0) := fun g => by
 obtain ⟨a, ha⟩ := List.exists_mem_of_ne_nil _ hne
 have hin := ask_in (routeIn_of h.may hi rfl) (h.each i hi).hangs ha
 have e := g.asked i (by rw [(set_len p i _).1]; exact hi) a (by rw [set_asked_at hi]; exact ha)
 rw [set_call hin.1] at e
 omega
/-- A section's knowledge changes nothing of what may be. -/
theorem tracks_may {p : Pl} {s : St15} {i : Nat} {z : Int} (h : StMay p s) (hi : i < s.tr.length) (hz : z ≤ 2) : StMay p ⟨s.tr.set i (s.tr[i].1, z), s.sw, s.lk⟩ := by
 have hp := h.parts
 refine ⟨h.sound, ⟨by simpa using hp.nt, hp.ns, hp.nl, fun j hj => ?_, hp.sw, hp.lk⟩, h.held, h.asked⟩
 have hj' : j < s.tr.length := by simpa using hj
 simp only [List.getElem_set]
 by_cases e : i = j
 ·subst e
  rw [if_pos rfl]
  exact ⟨(hp.tr i hi).1, hz⟩
 ·rw [if_neg e]
  exact hp.tr j hj'
theorem more_bad {p : Pl} {s : St15} {tr' : List Trk} (h : StMay p s) (hl : tr'.length ≠ s.tr.length) : ¬ StMay p ⟨tr', s.sw, s.lk⟩ := fun g => hl (g.parts.nt.trans h.parts.nt.symm)
theorem fewer_bad {p : Pl} {s : St15} {lk' : List Lck} (h : StMay p s) (hl : lk'.length ≠ s.lk.length) : ¬ StMay p ⟨s.tr, s.sw, lk'⟩ := fun g => hl (g.parts.nl.trans h.parts.nl.symm)

theorem pts_rise15 {p : Pl} (h : PlanMay p) : ∀ (i j : Nat) (hj : j < i) (hi : i < p.pts.length), (p.pts[j]'(by omega)).1 < p.pts[i].1 := fun i j hj hi => by
 obtain ⟨d, rfl⟩ : ∃ d, i = j + d + 1 := ⟨i - j - 1, by omega⟩
 induction d with
 | zero => exact (h.pts.each (j + 0 + 1) hi).2.2.1 j rfl
 | succ d ih => exact Int.lt_trans (ih (by omega) (by omega)) ((h.pts.each (j + (d + 1) + 1) hi).2.2.1 (j + d + 1) (by omega))
theorem route_at15 {p : Pl} (h : PlanMay p) {i : Nat} (hi : i < p.routes.length) : at1 kRt p.routes p.routes[i].id = (i : Int) :=
 at1_some hi rfl (fun j hj => by have := ids_rise h i j hj hi; intro e; have e' : (p.routes[j]'(by omega)).id = p.routes[i].id := e; omega)
theorem way_at15 {p : Pl} (h : PlanSound p) {i : Nat} (hi : i < p.routes.length) : wayE p p.routes[i].id = 0 ∧ wayV p p.routes[i].id = wayR p p.routes[i] := by
 have ha := route_at15 h.may hi
 have hE : wayE p p.routes[i].id = 0 := by rw [wayE, if_pos (planMay_true h.may), if_neg (by omega), routeN_at hi ha, if_pos (hangsB_true (h.each i hi).hangs)]
 exact ⟨hE, by rw [wayV, if_pos hE, routeN_at hi ha]⟩
theorem way_lock {p : Pl} {s : St15} (h : StMay p s) {i : Nat} (hi : i < s.lk.length) : wayE p (lkN s i).1 = 0 ∧ wayV p (lkN s i).1 = wayR p (rtN p i) := by
 have hl := h.parts.nl
 rw [rtId h.parts hi, rtN_at (by omega)]
 exact way_at15 h.sound (by omega)
theorem call_at15 {p : Pl} {s : St15} (h : StMay p s) {n : Nat} (hn : n < s.sw.length) : callN p s s.sw[n].1 = s.sw[n].2.2 := by
 have hl := h.parts.ns
 have e := (h.parts.sw n hn).1
 have ha : at1 (fun x : Jn => x.1) p.pts s.sw[n].1 = (n : Int) := at1_some (by omega) e.symm (fun j hj => by rw [e]; exact Int.ne_of_lt (pts_rise15 h.sound.may n j hj (by omega)))
 unfold callN
 rw [ha, Int.toNat_natCast, List.getD, List.getElem?_eq_getElem hn, Option.getD_some]
def MineP (l : List Int) (g sec : Int) (j : Nat) : Prop := ∃ k, k < j ∧ l[k]? = some sec ∧ g ≤ (k : Int)
theorem mine_zero {l : List Int} {g sec : Int} : ¬ MineP l g sec 0 := fun ⟨k, h, _⟩ => by omega
theorem mine_succ {l : List Int} {g sec : Int} {j : Nat} (hj : j < l.length) : MineP l g sec (j + 1) ↔ MineP l g sec j ∨ (l[j] = sec ∧ g ≤ (j : Int)) := by
 constructor
 ·rintro ⟨k, h1, h2, h3⟩
  by_cases e : k = j
  ·subst e
   rw [List.getElem?_eq_getElem hj, Option.some.injEq] at h2
   exact .inr ⟨h2, h3⟩
  ·exact .inl ⟨k, by omega, h2, h3⟩
 ·rintro (⟨k, h1, h2, h3⟩ | ⟨h2, h3⟩)
  ·exact ⟨k, by omega, h2, h3⟩
  ·exact ⟨j, by omega, by rw [List.getElem?_eq_getElem hj, h2], h3⟩
theorem mine_held {r : Rt} {l : Lck} {sec : Int} (h0 : l.2.1 ≠ 0) : sec ∈ heldL r l ↔ MineP r.path l.2.2.1 sec r.path.length ∨ sec ∈ r.over := by
 unfold heldL
 rw [if_neg h0, List.mem_append]
 refine or_congr_left ?_
 rw [List.mem_iff_getElem?]
 constructor
 ·rintro ⟨k, hk⟩
  rw [List.getElem?_drop] at hk
  have hlt := (List.getElem?_eq_some_iff.1 hk).1
  exact ⟨_, hlt, hk, by omega⟩
 ·rintro ⟨k, h1, h2, h3⟩
  exact ⟨k - l.2.2.1.toNat, by rw [List.getElem?_drop, show l.2.2.1.toNat + (k - l.2.2.1.toNat) = k by omega]; exact h2⟩
theorem holds_said {p : Pl} {s : St15} (h : StMay p s) {i : Nat} (hi : i < s.lk.length) {sec : Int} (hs : sec ∈ p.secs.map (fun x : Sec => x.1)) {u : Bool} (hu : u = true ↔ MineP (rtN p i).path (lkN s i).2.2.1 sec (rtN p i).path.length ∨ sec ∈ (rtN p i).over) :
  whoE p s sec = 0 ∧ (whoV p s sec = (lkN s i).1 ↔ (u = true ∧ (lkN s i).2.1 ≠ 0)) := by
 have he : staE p s = 0 := by rw [staE, if_pos (soundP_true h.sound), if_pos (stMay_iff.2 h)]
 have hw : whoE p s sec = 0 := by rw [whoE, if_pos he, if_pos hs]
 refine ⟨hw, ?_⟩
 rw [whoV, if_pos hw, who_iff h hi, heldN, hu]
 by_cases h0 : (lkN s i).2.1 = 0
 ·rw [heldL, if_pos h0]
  exact ⟨fun g => (by cases g), fun g => absurd h0 g.2⟩
 ·rw [mine_held h0]
  exact ⟨fun g => ⟨g, h0⟩, fun g => g.1⟩
theorem asks_said {p : Pl} {s : St15} (h : StMay p s) {i : Nat} (hi : i < s.lk.length) {a : Ak} (ha : a ∈ (wayR p (rtN p i)).asks) :
  lieE p s a.1 = 0 ∧ ((lkN s i).2.1 ≠ 0 → (a.2.2 < 0 ∨ (lkN s i).2.2.1 ≤ a.2.2) → lieV p s a.1 = a.2.1) ∧ ∀ n (hn : n < s.sw.length), s.sw[n].1 = a.1 → lieV p s a.1 ≠ 0 → s.sw[n].2.2 = lieV p s a.1 := by
 have hl := h.parts.nl
 have he : staE p s = 0 := by rw [staE, if_pos (soundP_true h.sound), if_pos (stMay_iff.2 h)]
 have hr : RouteIn p (rtN p i) := by rw [rtN_at (by omega)]; exact routeIn_of h.sound.may (by omega) rfl
 have hh : Hangs p (rtN p i) := by rw [rtN_at (by omega)]; exact (h.sound.each i (by omega)).hangs
 have hp := (ask_in hr hh ha).1
 have hw : lieE p s a.1 = 0 := by rw [lieE, if_pos he, if_pos hp]
 have hv : lieV p s a.1 = lieL p s a.1 := by rw [lieV, if_pos hw]
 refine ⟨hw, fun h0 hs => ?_, fun n hn e h0 => ?_⟩
 ·rw [hv]
  refine lie_of h hi ?_
  unfold askedN askedL
  rw [if_neg h0, List.mem_filter]
  refine ⟨ha, ?_⟩
  unfold standsA
  rw [← Bool.decide_or]
  exact decide_eq_true hs
 ·rw [hv] at h0 ⊢
  rw [← lie_call h h0, ← e, call_at15 h hn]
end Go.Proofs.Ytemmgmjhomgbbaa
