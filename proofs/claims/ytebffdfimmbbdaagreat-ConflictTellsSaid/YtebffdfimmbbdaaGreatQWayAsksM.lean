/-
 What a route asks: the mathematics.
 Conditions: none.
-/
import Derived.Test.YtebffdfimmbbdaaGreatQGWayPG
import Derived.Test.YtebffdfimmbbdaaGreatQGWayRefD
import Derived.Test.YtebffdfimmbbdaaGreatQPlnPM
set_option linter.unusedVariables false
set_option linter.unusedSimpArgs false
set_option maxRecDepth 100000
namespace Go.Proofs.YtebffdfimmbbdaaGreat
open Go.RowKit

/-- What is known of each thing that is asked. -/
theorem asks_at {p : Pl} {r : Rt} (hr : RouteIn p r) : ∀ (n : Nat), n ≤ (allR r).length → Hangs p r → ∀ i (hi : i < (asksL p r n).length),
  ∃ a, a < n ∧ (asksL p r n)[i].2.2 = (a : Int) ∧ (asksL p r n)[i].1 ≠ 0 ∧ (asksL p r n)[i].1 = (secN p ((allR r).getD a 0)).2.1 ∧ 1 ≤ (asksL p r n)[i].2.1 ∧ (asksL p r n)[i].2.1 ≤ 2 ∧ (∀ j (hj : j < i), (asksL p r n)[j].2.2 < (a : Int))
 | 0, _, _, i, hi => absurd hi (by simp [asksL])
 | n + 1, hn, hh, i, hi => by
  have ih := asks_at hr n (by omega) hh
  have hs := asksL_succ p r n
  have ha : n < (allR r).length := by omega
  cases hk : askN p r n with
  | none =>
   have he : asksL p r (n + 1) = asksL p r n := by rw [hs, hk]; simp
   rw [he] at hi
   obtain ⟨a, h1, h2⟩ := ih i hi
   refine ⟨a, by omega, ?_⟩
   simp only [he]
   exact h2
  | some k =>
   have he : asksL p r (n + 1) = asksL p r n ++ [k] := by rw [hs, hk]; rfl
   simp only [he]
   rw [he, List.length_append] at hi
   rcases Nat.lt_or_ge i (asksL p r n).length with h3 | h3
   ·obtain ⟨a, h1, h2, h4, h5, h6, h7, h8⟩ := ih i h3
    refine ⟨a, by omega, ?_⟩
    rw [List.getElem_append_left h3]
    exact ⟨h2, h4, h5, h6, h7, fun j hj => by rw [List.getElem_append_left (by omega)]; exact h8 j hj⟩
   ·obtain rfl : i = (asksL p r n).length := by simp at hi; omega
    refine ⟨n, by omega, ?_⟩
    rw [List.getElem_append_right (Nat.le_refl _)]
    simp only [Nat.sub_self, List.getElem_cons_zero]
    obtain ⟨L, hL⟩ : ∃ L, L = (if 0 ≤ outA p r n then lieS (secN p ((allR r).getD n 0)).2.1 (inN p r n) (outA p r n) else inN p r n) := ⟨_, rfl⟩
    have hk2 : (if (secN p ((allR r).getD n 0)).2.1 = 0 then none else if 0 < L then some ((secN p ((allR r).getD n 0)).2.1, L, (n : Int)) else none) = some k := by rw [hL]; exact hk
    obtain ⟨j, hc, hj, hl⟩ := hh n ha
    have hin := in_of hc
    have hrg := HereIn.range hr ha ⟨hc, hj⟩
    obtain ⟨ks, hks, hat, hsk, -⟩ := hr.sec ha
    have hsh := (hr.plan.secs.s ks hks).2.2
    rw [← hsk] at hsh
    by_cases h0 : (secN p ((allR r).getD n 0)).2.1 = 0
    ·rw [if_pos h0] at hk2; cases hk2
    ·rw [if_neg h0] at hk2
     by_cases hp : 0 < L
     ·rw [if_pos hp] at hk2
      injection hk2 with hk2
      have h3' : (secN p ((allR r).getD n 0)).2.2.length = 3 := by
       rw [shapedB, if_neg h0] at hsh
       simp only [Bool.and_eq_true, decide_eq_true_eq] at hsh
       exact hsh.2.2
      have hle : L ≤ 2 := by
       rw [hL]
       split
       ·rw [lieS, if_neg h0]
        split
        ·rename_i h4; omega
        ·split
         ·rename_i h5; omega
         ·omega
       ·rw [hin]; omega
      have g1 : k.1 = (secN p ((allR r).getD n 0)).2.1 := by rw [← hk2]
      have g2 : k.2.1 = L := by rw [← hk2]
      have g3 : k.2.2 = (n : Int) := by rw [← hk2]
      refine ⟨g3, by rw [g1]; exact h0, g1, by rw [g2]; omega, by rw [g2]; exact hle, fun j2 hj2 => ?_⟩
      rw [List.getElem_append_left hj2]
      obtain ⟨a2, h9, h10, -⟩ := ih j2 hj2
      rw [h10]; omega
     ·rw [if_neg hp] at hk2; cases hk2
/-- A section's point is one of the plan's, and lies in it. -/
theorem point_of {p : Pl} (h : PlanMay p) {k : Nat} (hk : k < p.secs.length) (h0 : p.secs[k].2.1 ≠ 0) : elE p kPt p.pts p.secs[k].2.1 = 0 ∧ (elV p kPt p.pts p.secs[k].2.1 (0, 0)).2 = p.secs[k].1 := by
 obtain ⟨j, hj, ha, hs⟩ := ((pts_iff h.secs).1 h.pts).each k hk h0
 obtain ⟨e1, e2⟩ := elE_some (z := ((0, 0) : Jn)) (planMay_true h) hj ha
 exact ⟨e1, by rw [e2]; exact hs⟩
/-- What is known of a route that hangs together. -/
theorem way_zero {p : Pl} {id : Int} (h : wayE p id = 0) : ∃ k, ∃ hk : k < p.routes.length, at1 kRt p.routes id = (k : Int) ∧ elE p kRt p.routes id = 0 ∧ elV p kRt p.routes id zRt = p.routes[k] ∧ RouteIn p p.routes[k] ∧ Hangs p p.routes[k] ∧ wayV p id = wayR p p.routes[k] ∧ leftV p id = leftL p p.routes[k] (allR p.routes[k]).length := by
 obtain ⟨hm, ha, hg⟩ := wayE_zero h
 rcases at1_cases kRt p.routes id with ⟨h1, -⟩ | ⟨k, hk, h1, -⟩
 ·omega
 ·obtain ⟨e1, e2⟩ := elE_some (z := zRt) hm hk h1
  have hn : routeN p id = p.routes[k] := routeN_at hk h1
  refine ⟨k, hk, h1, e1, e2, routeIn_of (planMay_iff.1 hm) hk rfl, ?_, by rw [wayV, if_pos h, hn], by rw [leftV, if_pos h, hn]⟩
  rw [← hn]; exact hangsB_iff.1 hg
end Go.Proofs.YtebffdfimmbbdaaGreat
