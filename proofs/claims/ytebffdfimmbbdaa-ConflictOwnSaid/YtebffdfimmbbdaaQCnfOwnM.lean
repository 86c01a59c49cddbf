/-
 Whether two routes conflict hangs on no third one, and on no version: the mathematics.
 Conditions: none.
-/
import Derived.Test.YtebffdfimmbbdaaQGCnfM
set_option linter.unusedVariables false
set_option linter.unusedSimpArgs false
namespace Go.Proofs.Ytebffdfimmbbdaa
open Go.RowKit

/-- The plan with these versions and routes in place of its own. -/
def withV (p : Pl) (v u : Int) (rs : List Rt) : Pl := ⟨v, u, p.secs, p.pts, p.sigs, rs⟩
section
variable (p : Pl) (v u : Int) (rs : List Rt) (r : Rt)
theorem comes_v : ∀ a, comesN (withV p v u rs) r a = comesN p r a
 | 0 => rfl
 | a + 1 => by
  have ih := comes_v a
  show (match comesN (withV p v u rs) r a with
   | none => none
   | some j => _) = _
  rw [ih]
  rfl
theorem out_v (a : Nat) : outA (withV p v u rs) r a = outA p r a := by
 show (if lastB r a then -1 else outN p r a (inN (withV p v u rs) r a)) = _
 rw [inN, comes_v]
 rfl
theorem asked_v (a : Nat) : askN (withV p v u rs) r a = askN p r a := by
 have h1 := out_v p v u rs r a
 have h2 := comes_v p v u rs r a
 simp only [askN, inN, h1, h2]
 rfl
theorem way_v : wayR (withV p v u rs) r = wayR p r := by
 have h : askN (withV p v u rs) r = askN p r := funext fun a => asked_v p v u rs r a
 simp only [wayR, asksL, h]
 rfl
end
theorem sound_v {p : Pl} {v u : Int} {rs : List Rt} {r : Rt} (h : Sound p r) : Sound (withV p v u rs) r :=
 ⟨fun i hi => by
  obtain ⟨j, h1, h2⟩ := h.hangs i hi
  exact ⟨j, by rw [comes_v]; exact h1, h2⟩, by rw [way_v]; exact h.once, fun i hi => by rw [out_v]; exact h.stands i hi⟩
/-- The routes of two numbers. -/
def selB (a b : Int) (r : Rt) : Bool := decide (r.id = a) || decide (r.id = b)
def selN (p : Pl) (a b : Int) (n : Nat) : List Rt := (p.routes.take n).filter (selB a b)
theorem selN_take {p : Pl} {a b : Int} {n : Nat} (hn : n < p.routes.length) (h : selB a b p.routes[n] = true) : selN p a b (n + 1) = selN p a b n ++ [p.routes[n]] := by
 rw [selN, List.take_add_one, List.getElem?_eq_getElem hn, List.filter_append]
 simp [selN, h]
theorem selN_skip {p : Pl} {a b : Int} {n : Nat} (hn : n < p.routes.length) (h : selB a b p.routes[n] = false) : selN p a b (n + 1) = selN p a b n := by
 rw [selN, List.take_add_one, List.getElem?_eq_getElem hn, List.filter_append]
 simp [selN, h]
theorem selN_len (p : Pl) (a b : Int) (n : Nat) : (selN p a b n).length ≤ n := by
 rw [selN]
 exact Nat.le_trans (List.length_filter_le _ _) (by rw [List.length_take]; omega)
theorem two_of {l : List Rt} {x y : Int} (hp : l.Pairwise fun r s => r.id < s.id) (hm : ∀ r ∈ l, r.id = x ∨ r.id = y) (hxy : x < y) {r s : Rt} (hr : r ∈ l) (hs : s ∈ l) (h1 : r.id = x) (h2 : s.id = y) : l = [r, s] := by
 match l, hp, hm, hr, hs with
 | [z], hp, hm, hr, hs =>
  rw [List.mem_singleton] at hr hs
  subst hr
  subst hs
  omega
 | [z, t], hp, hm, hr, hs =>
  have h3 : z.id < t.id := by simpa using hp
  have h4 := hm z (by simp)
  have h5 := hm t (by simp)
  have e1 : r = z := by
   rcases List.mem_cons.1 hr with e | e
   ·exact e
   ·have e' := List.mem_singleton.1 e; subst e'; omega
  have e2 : s = t := by
   rcases List.mem_cons.1 hs with e | e
   ·subst e; omega
   ·exact List.mem_singleton.1 e
  rw [e1, e2]
 | z :: t :: q :: l', hp, hm, hr, hs =>
  exfalso
  have h3 := hm z (by simp)
  have h4 := hm t (by simp)
  have h5 := hm q (by simp)
  simp only [List.pairwise_cons] at hp
  have h6 := hp.1 t (by simp)
  have h7 := hp.2.1 q (by simp)
  omega
theorem sel_may {p : Pl} (h : PlanSound p) (a b : Int) : PlanSound (withV p 1 0 (selN p a b p.routes.length)) := by
 have hs : (selN p a b p.routes.length).Sublist p.routes := by
  rw [selN, List.take_length]
  exact List.filter_sublist
 have hpr : p.routes.Pairwise (fun x y : Rt => x.id < y.id) := rise_of fun i h2 j hj => (h.may.each i h2).2.1 j hj
 refine ⟨⟨(show (1 : Int) ≤ 1 ∧ (1 : Int) ≤ 2147483647 by decide), (show (0 : Int) ≤ 0 ∧ (0 : Int) < 1 by decide), Nat.le_trans hs.length_le h.may.n, h.may.secs, ⟨h.may.pts.n, h.may.pts.many, h.may.pts.each⟩, ⟨h.may.sigs.n, h.may.sigs.each⟩, fun i hi => ?_⟩, fun i hi => ?_⟩
 ·have hi' : i < (selN p a b p.routes.length).length := hi
  have hm : (selN p a b p.routes.length)[i] ∈ p.routes := hs.subset (List.getElem_mem hi')
  refine ⟨?_, fun j hj => List.pairwise_iff_getElem.1 (hpr.sublist hs) j i (by omega) hi' (by omega), ?_⟩
  ·obtain ⟨n, hn, e⟩ := List.getElem_of_mem hm
   show 1 ≤ (selN p a b p.routes.length)[i].id ∧ (selN p a b p.routes.length)[i].id ≤ 99
   rw [← e]
   exact (h.may.each n hn).1
  ·show RouteMay _ (selN p a b p.routes.length)[i]
   obtain ⟨n, hn, e⟩ := List.getElem_of_mem hm
   rw [← e]
   have h1 := (h.may.each n hn).2.2
   exact ⟨h1.entry, h1.exit, h1.over0, h1.path, h1.over, h1.flank, h1.timer, h1.secs, h1.flanks⟩
 ·have hi' : i < (selN p a b p.routes.length).length := hi
  have hm : (selN p a b p.routes.length)[i] ∈ p.routes := hs.subset (List.getElem_mem hi')
  show Sound _ (selN p a b p.routes.length)[i]
  obtain ⟨n, hn, e⟩ := List.getElem_of_mem hm
  rw [← e]
  exact sound_v (h.each n hn)
/-- Of two numbers of routes: the two routes, in their order. -/
theorem sel_two {p : Pl} (h : PlanMay p) {a b : Int} (ha : 0 ≤ at1 kRt p.routes a) (hb : 0 ≤ at1 kRt p.routes b) (hab : a < b) : selN p a b p.routes.length = [routeN p a, routeN p b] ∧ selN p b a p.routes.length = [routeN p a, routeN p b] ∧ (routeN p a).id = a ∧ (routeN p b).id = b := by
 have hpr : p.routes.Pairwise (fun x y : Rt => x.id < y.id) := rise_of fun i h2 j hj => (h.each i h2).2.1 j hj
 have get : ∀ c, 0 ≤ at1 kRt p.routes c → routeN p c ∈ p.routes ∧ (routeN p c).id = c := fun c hc => by
  rcases at1_cases kRt p.routes c with ⟨h1, -⟩ | ⟨k, hk, h1, h2, -⟩
  ·omega
  ·rw [routeN_at hk h1]; exact ⟨List.getElem_mem hk, h2⟩
 obtain ⟨a1, a2⟩ := get a ha
 obtain ⟨b1, b2⟩ := get b hb
 refine ⟨?_, ?_, a2, b2⟩
 ·rw [selN, List.take_length]
  refine two_of (x := a) (y := b) (hpr.filter _) (fun r hr => ?_) hab ?_ ?_ a2 b2
  ·have := (List.mem_filter.1 hr).2
   simpa [selB] using this
  ·exact List.mem_filter.2 ⟨a1, by simp [selB, a2]⟩
  ·exact List.mem_filter.2 ⟨b1, by simp [selB, b2]⟩
 ·rw [selN, List.take_length]
  refine two_of (x := a) (y := b) (hpr.filter _) (fun r hr => ?_) hab ?_ ?_ a2 b2
  ·have := (List.mem_filter.1 hr).2
   simp only [selB, Bool.or_eq_true, decide_eq_true_eq] at this
   exact this.symm
  ·exact List.mem_filter.2 ⟨a1, by simp [selB, a2]⟩
  ·exact List.mem_filter.2 ⟨b1, by simp [selB, b2]⟩
theorem tab_two {q : Pl} {r s : Rt} (h : PlanSound q) (hr : q.routes = [r, s]) : (tabL q).length = if confW (wayR q r) (wayR q s) then 1 else 0 := by
 have e0 : rtI q 0 = r := by rw [rtI, hr]; rfl
 have e1 : rtI q 1 = s := by rw [rtI, hr]; rfl
 have hn : q.routes.length = 2 := by rw [hr]; rfl
 rw [tabL, if_pos (soundP_true h), hn, tabC_succ, tabC_succ, hn, rowC_zero q 1 (Nat.le_refl _)]
 have e2 : tabC q 0 = [] := rfl
 rw [e2, List.nil_append, List.append_nil]
 cases hc : confW (wayR q r) (wayR q s) with
 | true => rw [rowC_take (by omega) (by rw [e0, e1]; exact hc), rowC_zero q 0 (Nat.le_refl _)]; rfl
 | false => rw [rowC_skip (by rw [e0, e1]; exact hc), rowC_zero q 0 (Nat.le_refl _)]; rfl
/-- With just the two routes: all is as it was. -/
theorem own_two {p : Pl} {a b : Int} (h : twoE p a b = 0) :
  twoE (withV p 1 0 (selN p a b p.routes.length)) a b = 0 ∧ twoB (withV p 1 0 (selN p a b p.routes.length)) a b = twoB p a b ∧ sndE (withV p 1 0 (selN p a b p.routes.length)) = 0 ∧ (tabL (withV p 1 0 (selN p a b p.routes.length))).length = if twoB p a b then 1 else 0 := by
 obtain ⟨hs, ha, hb, hab⟩ := twoE_zero h
 have hq := sel_may hs a b
 generalize hQ : withV p 1 0 (selN p a b p.routes.length) = q at hq
 have hB : twoB p a b = confW (wayR p (routeN p a)) (wayR p (routeN p b)) := by rw [twoB, if_pos h]
 have hw : ∀ r, wayR q r = wayR p r := fun r => by rw [← hQ]; exact way_v ..
 have key : ∃ r s, q.routes = [r, s] ∧ at1 kRt q.routes a ≥ 0 ∧ at1 kRt q.routes b ≥ 0 ∧ routeN q a = routeN p a ∧ routeN q b = routeN p b ∧ (confW (wayR p r) (wayR p s) = confW (wayR p (routeN p a)) (wayR p (routeN p b))) := by
  rcases Int.lt_or_gt_of_ne hab with h1 | h1
  ·obtain ⟨e, -, e1, e2⟩ := sel_two hs.may ha hb h1
   have hr : q.routes = [routeN p a, routeN p b] := by rw [← hQ]; exact e
   have f1 : at1 kRt q.routes a = ((0 : Nat) : Int) := at1_some (by rw [hr]; simp) (by simp only [hr]; exact e1) fun j hj => absurd hj (by omega)
   have f2 : at1 kRt q.routes b = ((1 : Nat) : Int) := at1_some (by rw [hr]; simp) (by simp only [hr]; exact e2) fun j hj => by
    obtain rfl : j = 0 := by omega
    simp only [hr]
    show (routeN p a).id ≠ b
    omega
   refine ⟨_, _, hr, by omega, by omega, ?_, ?_, rfl⟩
   ·rw [routeN, f1, hr]; rfl
   ·rw [routeN, f2, hr]; rfl
  ·obtain ⟨-, e, e1, e2⟩ := sel_two hs.may hb ha h1
   have hr : q.routes = [routeN p b, routeN p a] := by rw [← hQ]; exact e
   have f1 : at1 kRt q.routes b = ((0 : Nat) : Int) := at1_some (by rw [hr]; simp) (by simp only [hr]; exact e1) fun j hj => absurd hj (by omega)
   have f2 : at1 kRt q.routes a = ((1 : Nat) : Int) := at1_some (by rw [hr]; simp) (by simp only [hr]; exact e2) fun j hj => by
    obtain rfl : j = 0 := by omega
    simp only [hr]
    show (routeN p b).id ≠ a
    omega
   refine ⟨_, _, hr, by omega, by omega, ?_, ?_, confW_symm _ _⟩
   ·rw [routeN, f2, hr]; rfl
   ·rw [routeN, f1, hr]; rfl
 obtain ⟨r, s, hr, g1, g2, g3, g4, g5⟩ := key
 have hE : twoE q a b = 0 := by rw [twoE, if_pos (soundP_true hq), if_neg (by omega), if_neg hab]
 refine ⟨hE, ?_, sndE_zero.2 hq, ?_⟩
 ·rw [twoB, if_pos hE, hB, g3, g4, hw, hw]
 ·rw [tab_two hq hr, hw, hw, g5, hB]
end Go.Proofs.Ytebffdfimmbbdaa
