/-
  What a route comes to hangs on no other route: the mathematics.
  Conditions: none.
-/
import Derived.Test.YtjgdgdccnbmbiaaYGWayPG
import Derived.Test.YtjgdgdccnbmbiaaYGWayRefD
import Derived.Test.YtjgdgdccnbmbiaaYPlnPM
set_option linter.unusedVariables false
set_option linter.unusedSimpArgs false
set_option maxRecDepth 100000
namespace Go.Proofs.Ytjgdgdccnbmbiaa
open Go.RowKit

def hisB (r : Rt) (s : Sg) : Bool := decide (s.1 = r.entry ∨ s.1 = r.exit)
def ownP (p : Pl) (r : Rt) : Pl := ⟨1, 0, p.secs, p.pts, p.sigs.filter (hisB r), [r]⟩
theorem sigs_pair {p : Pl} (h : SigsMay p) : p.sigs.Pairwise (fun a b => a.1 < b.1 ∧ ¬ (a.2.1 = b.2.1 ∧ a.2.2 = b.2.2)) := List.pairwise_iff_getElem.2 fun i j hi hj hij => (h.each j hj).2.2.2 i hij
theorem sigs_uniq {p : Pl} (h : SigsMay p) {i j : Nat} (hi : i < p.sigs.length) (hj : j < p.sigs.length) (he : p.sigs[i].1 = p.sigs[j].1) : i = j := by
  rcases Nat.lt_trichotomy i j with h1 | h1 | h1
  · have := ((h.each j hj).2.2.2 i h1).1; omega
  · exact h1
  · have := ((h.each i hi).2.2.2 j h1).1; omega
/-- A signal that is kept. -/
theorem own_sig {p : Pl} {r : Rt} (h : SigsMay p) {id : Int} {k : Nat} (hk : k < p.sigs.length) (hat : at1 kSg p.sigs id = (k : Int)) (hid : id = r.entry ∨ id = r.exit) : ∃ k2, ∃ hk2 : k2 < (ownP p r).sigs.length, at1 kSg (ownP p r).sigs id = (k2 : Int) ∧ (ownP p r).sigs[k2] = p.sigs[k] := by
  have hkid : p.sigs[k].1 = id := by
    rcases at1_cases kSg p.sigs id with ⟨h1, -⟩ | ⟨i, hi, h1, h2, -⟩
    · omega
    · obtain rfl : i = k := by omega
      exact h2
  obtain ⟨j, hj, ha, he⟩ := at1_mem (k := kSg) (l := (ownP p r).sigs) (id := id) ⟨p.sigs[k], List.mem_filter.2 ⟨List.getElem_mem hk, decide_eq_true (by rw [hkid]; exact hid)⟩, hkid⟩
  refine ⟨j, hj, ha, ?_⟩
  have hm : (ownP p r).sigs[j] ∈ p.sigs := (List.mem_filter.1 (List.getElem_mem hj)).1
  obtain ⟨i, hi, hie⟩ := List.getElem_of_mem hm
  have : i = k := sigs_uniq h hi hk (by rw [hie, hkid]; exact he)
  subst this
  exact hie.symm
theorem own_sigs {p : Pl} {r : Rt} (h : SigsMay p) : SigsMay (ownP p r) := by
  refine ⟨Nat.le_trans (List.length_filter_le _ _) h.n, fun i hi => ?_⟩
  have hm : (ownP p r).sigs[i] ∈ p.sigs := (List.mem_filter.1 (List.getElem_mem hi)).1
  obtain ⟨j, hj, he⟩ := List.getElem_of_mem hm
  obtain ⟨h1, h2, h3, -⟩ := h.each j hj
  rw [he] at h1 h2 h3
  exact ⟨h1, h2, h3, fun m hmi => List.pairwise_iff_getElem.1 ((sigs_pair h).filter (hisB r)) m i (by have : i < (List.filter (hisB r) p.sigs).length := hi; omega) hi hmi⟩
theorem own_may {p : Pl} (h : PlanMay p) {u : Nat} (hu : u < p.routes.length) : PlanMay (ownP p p.routes[u]) := by
  obtain ⟨h1, -, hr⟩ := h.each u hu
  refine ⟨(show (1 : Int) ≤ 1 ∧ (1 : Int) ≤ 2147483647 by decide), (show (0 : Int) ≤ 0 ∧ (0 : Int) < 1 by decide), (show 1 ≤ 16 by decide), h.secs, ⟨h.pts.n, h.pts.many, h.pts.each⟩, own_sigs h.sigs, fun i hi => ?_⟩
  obtain rfl : i = 0 := by have : i < 1 := hi; omega
  refine ⟨h1, fun j hj => absurd hj (by omega), ?_⟩
  show RouteMay (ownP p p.routes[u]) p.routes[u]
  obtain ⟨k, hk, hat, hne⟩ := hr.entry
  obtain ⟨k2, hk2, hat2, he2⟩ := own_sig (r := p.routes[u]) h.sigs hk hat (.inl rfl)
  refine ⟨⟨k2, hk2, hat2, fun i hi => by rw [he2]; exact hne i hi⟩, fun hx => ?_, hr.over0, hr.path, hr.over, hr.flank, hr.timer, hr.secs, hr.flanks⟩
  obtain ⟨h3, h4⟩ := hr.exit hx
  rcases at1_cases kSg p.sigs p.routes[u].exit with ⟨h5, -⟩ | ⟨k3, hk3, h5, -⟩
  · have h6 : (0 : Int) ≤ at1 kSg p.sigs p.routes[u].exit := h3
    omega
  · obtain ⟨k4, hk4, hat4, -⟩ := own_sig (r := p.routes[u]) h.sigs hk3 h5 (.inr rfl)
    exact ⟨by show (0 : Int) ≤ at1 kSg (ownP p p.routes[u]).sigs p.routes[u].exit; omega, h4⟩
theorem own_right {p : Pl} (h : PlanMay p) {u : Nat} (hu : u < p.routes.length) (a : Nat) (inn : Int) (e : Nat) : rightB (ownP p p.routes[u]) p.routes[u] a inn e = rightB p p.routes[u] a inn e := by
  have hr := (h.each u hu).2.2
  have hs : ∀ id, secN (ownP p p.routes[u]) id = secN p id := fun _ => rfl
  simp only [rightB, hs]
  by_cases ha : a + 1 = p.routes[u].path.length
  · rw [if_pos ha, if_pos ha]
    congr 1
    rw [decide_eq_decide]
    by_cases hx : p.routes[u].exit = 0
    · constructor
      · rintro (h1 | h1)
        · exact .inl h1
        · exact absurd hx h1.1
      · rintro (h1 | h1)
        · exact .inl h1
        · exact absurd hx h1.1
    · have h3 : (0 : Int) ≤ at1 kSg p.sigs p.routes[u].exit := (hr.exit hx).1
      rcases at1_cases kSg p.sigs p.routes[u].exit with ⟨h5, -⟩ | ⟨k3, hk3, h5, -⟩
      · omega
      · obtain ⟨k4, hk4, hat4, he4⟩ := own_sig (r := p.routes[u]) h.sigs hk3 h5 (.inr rfl)
        have i1 := stands_is (own_may h hu) (sec := (secN p ((allR p.routes[u]).getD a 0)).1) (en := e) hk4 hat4
        have i2 := stands_is h (sec := (secN p ((allR p.routes[u]).getD a 0)).1) (en := e) hk3 h5
        rw [he4] at i1
        rw [i1, i2]
  · rw [if_neg ha, if_neg ha]
theorem own_out {p : Pl} (h : PlanMay p) {u : Nat} (hu : u < p.routes.length) (a : Nat) (inn : Int) : outN (ownP p p.routes[u]) p.routes[u] a inn = outN p p.routes[u] a inn := by
  have h1 : rightB (ownP p p.routes[u]) p.routes[u] a inn = rightB p p.routes[u] a inn := funext fun e => own_right h hu a inn e
  rw [outN, outN, h1]
  rfl
theorem own_entry {p : Pl} (h : PlanMay p) {u : Nat} (hu : u < p.routes.length) : sigN (ownP p p.routes[u]) p.routes[u].entry = sigN p p.routes[u].entry := by
  obtain ⟨k, hk, hat, -⟩ := (h.each u hu).2.2.entry
  obtain ⟨k2, hk2, hat2, he2⟩ := own_sig (r := p.routes[u]) h.sigs hk hat (.inl rfl)
  rw [sigN_at hk2 hat2, sigN_at hk hat, he2]
theorem own_comes {p : Pl} (h : PlanMay p) {u : Nat} (hu : u < p.routes.length) : ∀ a, comesN (ownP p p.routes[u]) p.routes[u] a = comesN p p.routes[u] a
  | 0 => by rw [comesN, comesN, own_entry h hu]; rfl
  | a + 1 => by rw [comesN, comesN, own_comes h hu a]; simp only [own_out h hu]; rfl
theorem own_in {p : Pl} (h : PlanMay p) {u : Nat} (hu : u < p.routes.length) (a : Nat) : inN (ownP p p.routes[u]) p.routes[u] a = inN p p.routes[u] a := by rw [inN, inN, own_comes h hu]
theorem own_hangs {p : Pl} (h : PlanMay p) {u : Nat} (hu : u < p.routes.length) : Hangs (ownP p p.routes[u]) p.routes[u] ↔ Hangs p p.routes[u] := by
  rw [Hangs, Hangs, HangsTo, HangsTo]
  simp only [own_comes h hu, own_out h hu]
theorem own_outA {p : Pl} (h : PlanMay p) {u : Nat} (hu : u < p.routes.length) (a : Nat) : outA (ownP p p.routes[u]) p.routes[u] a = outA p p.routes[u] a := by rw [outA, outA, own_in h hu, own_out h hu]
theorem own_asks {p : Pl} (h : PlanMay p) {u : Nat} (hu : u < p.routes.length) (n : Nat) : asksL (ownP p p.routes[u]) p.routes[u] n = asksL p p.routes[u] n := by
  have h1 : askN (ownP p p.routes[u]) p.routes[u] = askN p p.routes[u] := funext fun a => by
    simp only [askN, own_outA h hu, own_in h hu]
    rfl
  rw [asksL, asksL, h1]
/-- The route alone comes to the same. -/
theorem own_way {p : Pl} {id : Int} {r : Rt} (h0 : elE p kRt p.routes id = 0) (hr : r = elV p kRt p.routes id zRt) : wayE (ownP p r) id = wayE p id ∧ wayV (ownP p r) id = wayV p id := by
  have hm : planMay p = true := by
    rw [elE] at h0
    cases hm : planMay p with
    | true => rfl
    | false => rw [hm] at h0; simp at h0
  rcases at1_cases kRt p.routes id with ⟨h1, -⟩ | ⟨u, hu, h1, h2, -⟩
  · rw [elE, hm, if_pos rfl, if_pos (by omega)] at h0; cases h0
  obtain ⟨-, e2⟩ := elE_some (z := zRt) hm hu h1
  rw [e2] at hr
  subst hr
  have hP := planMay_iff.1 hm
  have hr1 : at1 kRt (ownP p p.routes[u]).routes id = ((0 : Nat) : Int) := at1_some (k := kRt) (l := [p.routes[u]]) (by simp) h2 (fun j hj => absurd hj (by omega))
  have hr2 : routeN (ownP p p.routes[u]) id = p.routes[u] := routeN_at (by exact Nat.zero_lt_one) hr1
  have hr3 : routeN p id = p.routes[u] := routeN_at hu h1
  have hH : hangsB (ownP p p.routes[u]) p.routes[u] = hangsB p p.routes[u] := by
    by_cases hg : Hangs p p.routes[u]
    · rw [hangsB_true hg, hangsB_true ((own_hangs hP hu).2 hg)]
    · rw [hangsB_false hg, hangsB_false (fun h => hg ((own_hangs hP hu).1 h))]
  have hE : wayE (ownP p p.routes[u]) id = wayE p id := by
    rw [wayE, wayE, planMay_true (own_may hP hu), hm, if_pos rfl, if_pos rfl, if_neg (show ¬ at1 kRt (ownP p p.routes[u]).routes id < 0 by omega), if_neg (show ¬ at1 kRt p.routes id < 0 by omega), hr2, hr3, hH]
  refine ⟨hE, ?_⟩
  rw [wayV, wayV, hE]
  by_cases hz : wayE p id = 0
  · rw [if_pos hz, if_pos hz, hr2, hr3]
    exact wy_eq.2 ⟨congrArg (fun s : Sg => s.2.1) (own_entry hP hu), rfl, rfl, congrArg (fun l => l ++ _) (own_asks hP hu _)⟩
  · rw [if_neg hz, if_neg hz]
/-- Where there is no such route, both errors are the same. -/
theorem own_none {p : Pl} {id : Int} (h : elE p kRt p.routes id ≠ 0) : wayE p id = elE p kRt p.routes id := by
  rw [elE] at h ⊢
  rw [wayE]
  cases hm : planMay p with
  | false => rfl
  | true =>
    rw [hm, if_pos rfl] at h
    rw [if_pos rfl, if_pos rfl]
    by_cases ha : at1 kRt p.routes id < 0
    · rw [if_pos ha, if_pos ha]
    · rw [if_neg ha] at h; exact absurd rfl h
theorem filter_take {p : Sg → Bool} {l : List Sg} {i : Nat} (hi : i < l.length) : (l.take (i + 1)).filter p = (l.take i).filter p ++ if p l[i] then [l[i]] else [] := by
  rw [List.take_succ_eq_append_getElem hi, List.filter_append]
  congr 1
  rw [List.filter_cons]
  split <;> rfl
end Go.Proofs.Ytjgdgdccnbmbiaa
