/-
 The document's own functions of package plan: route.
 Conditions: none.
-/
import Derived.Test.YtemmgmjhomgbbaaGreatVGPlnRefA
import Derived.Test.YtemmgmjhomgbbaaGreatVGPlnRefB
set_option linter.unusedVariables false
set_option linter.unusedSimpArgs false
set_option maxRecDepth 100000
namespace Go.Proofs.YtemmgmjhomgbbaaGreat
open Go.RowKit
/-- A route may be. -/
structure RouteMay (p : Pl) (r : Rt) : Prop where
 entry : ∃ k, ∃ hk : k < p.sigs.length, at1 (fun x : Sg => x.1) p.sigs r.entry = (k : Int) ∧ ∀ i (h : i < (r.path ++ r.over).length), (r.path ++ r.over)[i] ≠ p.sigs[k].2.1
 exit : r.exit ≠ 0 → 0 ≤ at1 (fun x : Sg => x.1) p.sigs r.exit ∧ r.exit ≠ r.entry
 over0 : r.exit = 0 → r.over.length = 0
 path : 1 ≤ r.path.length ∧ r.path.length ≤ 6
 over : r.over.length ≤ 2
 flank : r.flanks.length ≤ 3
 timer : 1 ≤ r.timer ∧ r.timer ≤ 9
 secs : ∀ i (h : i < (r.path ++ r.over).length), 0 ≤ atS p.secs (r.path ++ r.over)[i] ∧ ∀ m (hm : m < i), (r.path ++ r.over)[m] ≠ (r.path ++ r.over)[i]
 flanks : ∀ i (h : i < r.flanks.length), 0 ≤ at1 (fun x : Jn => x.1) p.pts r.flanks[i].1 ∧ (∀ j (hj : j + 1 = i), (r.flanks[j]'(by omega)).1 < r.flanks[i].1) ∧ 1 ≤ r.flanks[i].2 ∧ r.flanks[i].2 ≤ 2
theorem wrap_id {x : Int} (h0 : -9223372036854775808 ≤ x) (h1 : x ≤ 9223372036854775807) : IntKind.i64.wrap x = x := by
 simp [IntKind.wrap, IntKind.signed, IntKind.bits]
 omega
end Go.Proofs.YtemmgmjhomgbbaaGreat
