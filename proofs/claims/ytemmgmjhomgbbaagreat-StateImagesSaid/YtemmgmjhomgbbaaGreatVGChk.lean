/-
 Plans that may be are judged by reckoning: for the plans that examples lay.
 Conditions: none.
-/
import Derived.Test.YtemmgmjhomgbbaaGreatVGPlnRefC
import Derived.Test.YtemmgmjhomgbbaaGreatVSndM
set_option linter.unusedVariables false
set_option linter.unusedSimpArgs false
set_option maxRecDepth 100000
namespace Go.Proofs.YtemmgmjhomgbbaaGreat
open Go.RowKit

instance chkSecs (l : List Sec) : Decidable (TMay l) := @decidable_of_iff _
 (l.length ≤ 16 ∧ (∀ i (h : i < l.length), 1 ≤ l[i].1 ∧ l[i].1 ≤ 99 ∧ shapedB l[i] = true) ∧
  (∀ i (hi : i < l.length) j (hj : j < i), (l[j]'(by omega)).1 < l[i].1 ∧ ¬ (l[i].2.1 ≠ 0 ∧ (l[j]'(by omega)).2.1 = l[i].2.1)) ∧
  ∀ i (hi : i < l.length) k, k < l[i].2.2.length → joinedB l l[i] k = true)
 ⟨fun ⟨a, b, c, d⟩ => ⟨a, b, fun i j hj hi => c i hi j hj, fun i k hi hk => d i hi k hk⟩, fun h => ⟨h.n, h.s, fun i hi j hj => h.k i j hj hi, fun i hi k hk => h.e i k hi hk⟩⟩ (by infer_instance)
instance chkPts (p : Pl) : Decidable (PtsMay p) := @decidable_of_iff _
 (p.pts.length ≤ 6 ∧ p.secs.countP hasPt = p.pts.length ∧ ∀ i (h : i < p.pts.length), 1 ≤ p.pts[i].1 ∧ p.pts[i].1 ≤ 99 ∧ (∀ j (hj : j < i), j + 1 = i → (p.pts[j]'(by omega)).1 < p.pts[i].1) ∧ ∃ k, ∃ hk : k < p.secs.length, atS p.secs p.pts[i].2 = (k : Int) ∧ p.secs[k].2.1 = p.pts[i].1)
 ⟨fun ⟨a, b, c⟩ => ⟨a, b, fun i h => ⟨(c i h).1, (c i h).2.1, fun j hj => (c i h).2.2.1 j (by omega) hj, (c i h).2.2.2⟩⟩,
  fun h => ⟨h.n, h.many, fun i hi => ⟨(h.each i hi).1, (h.each i hi).2.1, fun j _ hj => (h.each i hi).2.2.1 j hj, (h.each i hi).2.2.2⟩⟩⟩ (by infer_instance)
instance chkSigs (p : Pl) : Decidable (SigsMay p) := @decidable_of_iff _
 (p.sigs.length ≤ 10 ∧ ∀ i (h : i < p.sigs.length), 1 ≤ p.sigs[i].1 ∧ p.sigs[i].1 ≤ 99 ∧ (∃ k, ∃ hk : k < p.secs.length, atS p.secs p.sigs[i].2.1 = (k : Int) ∧ 0 ≤ p.sigs[i].2.2 ∧ p.sigs[i].2.2 < p.secs[k].2.2.length) ∧ ∀ m (hm : m < i), (p.sigs[m]'(by omega)).1 < p.sigs[i].1 ∧ ¬ ((p.sigs[m]'(by omega)).2.1 = p.sigs[i].2.1 ∧ (p.sigs[m]'(by omega)).2.2 = p.sigs[i].2.2))
 ⟨fun ⟨a, b⟩ => ⟨a, b⟩, fun h => ⟨h.n, h.each⟩⟩ (by infer_instance)
instance chkRoute (p : Pl) (r : Rt) : Decidable (RouteMay p r) := @decidable_of_iff _
 ((∃ k, ∃ hk : k < p.sigs.length, at1 (fun x : Sg => x.1) p.sigs r.entry = (k : Int) ∧ ∀ i (h : i < (r.path ++ r.over).length), (r.path ++ r.over)[i] ≠ p.sigs[k].2.1) ∧
  (r.exit ≠ 0 → 0 ≤ at1 (fun x : Sg => x.1) p.sigs r.exit ∧ r.exit ≠ r.entry) ∧ (r.exit = 0 → r.over.length = 0) ∧ (1 ≤ r.path.length ∧ r.path.length ≤ 6) ∧ r.over.length ≤ 2 ∧ r.flanks.length ≤ 3 ∧ (1 ≤ r.timer ∧ r.timer ≤ 9) ∧
  (∀ i (h : i < (r.path ++ r.over).length), 0 ≤ atS p.secs (r.path ++ r.over)[i] ∧ ∀ m (hm : m < i), (r.path ++ r.over)[m] ≠ (r.path ++ r.over)[i]) ∧
  ∀ i (h : i < r.flanks.length), 0 ≤ at1 (fun x : Jn => x.1) p.pts r.flanks[i].1 ∧ (∀ j (hj : j < i), j + 1 = i → (r.flanks[j]'(by omega)).1 < r.flanks[i].1) ∧ 1 ≤ r.flanks[i].2 ∧ r.flanks[i].2 ≤ 2)
 ⟨fun ⟨a, b, c, d, e, f, g, h, i⟩ => ⟨a, b, c, d, e, f, g, h, fun k hk => ⟨(i k hk).1, fun j hj => (i k hk).2.1 j (by omega) hj, (i k hk).2.2⟩⟩,
  fun h => ⟨h.entry, h.exit, h.over0, h.path, h.over, h.flank, h.timer, h.secs, fun k hk => ⟨(h.flanks k hk).1, fun j _ hj => (h.flanks k hk).2.1 j hj, (h.flanks k hk).2.2⟩⟩⟩ (by infer_instance)
instance chkPlan (p : Pl) : Decidable (PlanMay p) := @decidable_of_iff _
 ((1 ≤ p.ver ∧ p.ver ≤ 2147483647) ∧ (0 ≤ p.par ∧ p.par < p.ver) ∧ p.routes.length ≤ 16 ∧ TMay p.secs ∧ PtsMay p ∧ SigsMay p ∧
  ∀ i (h : i < p.routes.length), (1 ≤ p.routes[i].id ∧ p.routes[i].id ≤ 99) ∧ (∀ j (hj : j < i), j + 1 = i → (p.routes[j]'(by omega)).id < p.routes[i].id) ∧ RouteMay p p.routes[i])
 ⟨fun ⟨a, b, c, d, e, f, g⟩ => ⟨a, b, c, d, e, f, fun i hi => ⟨(g i hi).1, fun j hj => (g i hi).2.1 j (by omega) hj, (g i hi).2.2⟩⟩,
  fun h => ⟨h.ver, h.par, h.n, h.secs, h.pts, h.sigs, fun i hi => ⟨(h.each i hi).1, fun j _ hj => (h.each i hi).2.1 j hj, (h.each i hi).2.2⟩⟩⟩ (by infer_instance)

def hangC (p : Pl) (r : Rt) (i : Nat) : Bool := match comesN p r i with
 | some j => decide (j.1 = (allR r).getD i 0) && (lastB r i || decide (0 ≤ outN p r i j.2))
 | none => false
theorem hangC_iff {p : Pl} {r : Rt} {i : Nat} : hangC p r i = true ↔ ∃ j, comesN p r i = some j ∧ j.1 = (allR r).getD i 0 ∧ (lastB r i = false → 0 ≤ outN p r i j.2) := by
 rw [hangC]
 cases comesN p r i with
 | none => simp
 | some j => cases lastB r i <;> simp
instance chkHangs (p : Pl) (r : Rt) : Decidable (Hangs p r) := decidable_of_iff (∀ i, i < (allR r).length → hangC p r i = true)
 ⟨fun h i hi => hangC_iff.1 (h i hi), fun h i hi => hangC_iff.2 (h i hi)⟩
instance chkOnce (l : List Ak) : Decidable (OnceA l) := inferInstanceAs (Decidable (∀ i (hi : i < l.length) k (hk : k < i), (l[k]'(by omega)).1 ≠ l[i].1))
instance chkStands (p : Pl) (r : Rt) : Decidable (StandsR p r) := inferInstanceAs (Decidable (∀ i (hi : i < r.path.length), (i + 1 < r.path.length → standsS p.sigs r.path[i] (outA p r i) = 0) ∧ (i + 1 = r.path.length → standsS p.sigs r.path[i] (outA p r i) = r.exit)))
instance chkSound (p : Pl) (r : Rt) : Decidable (Sound p r) := decidable_of_iff (Hangs p r ∧ OnceA (wayR p r).asks ∧ StandsR p r) ⟨fun ⟨a, b, c⟩ => ⟨a, b, c⟩, fun h => ⟨h.hangs, h.once, h.stands⟩⟩
instance chkPlanSound (p : Pl) : Decidable (PlanSound p) := decidable_of_iff (PlanMay p ∧ ∀ k (hk : k < p.routes.length), Sound p p.routes[k]) ⟨fun ⟨a, b⟩ => ⟨a, b⟩, fun h => ⟨h.may, h.each⟩⟩

end Go.Proofs.YtemmgmjhomgbbaaGreat
