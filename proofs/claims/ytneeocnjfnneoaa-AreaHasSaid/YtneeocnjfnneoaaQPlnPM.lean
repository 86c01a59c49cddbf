/-
 Points, signals and routes as the program asks for them: the same as the document's.
 Conditions: of points and signals: sections that may be.
-/
import Derived.Test.YtneeocnjfnneoaaQGPlnRefC
set_option linter.unusedVariables false
set_option linter.unusedSimpArgs false
set_option maxRecDepth 100000
namespace Go.Proofs.Ytneeocnjfnneoaa
open Go.RowKit

/-- The numbers rise, and may be. -/
def RiseK {α : Type} (k : α → Int) (l : List α) : Prop := ∀ i (h : i < l.length), 1 ≤ k l[i] ∧ k l[i] ≤ 99 ∧ ∀ j (hj : j + 1 = i), k (l[j]'(by omega)) < k l[i]
/-- The points as the program asks for them. -/
structure PtsP (p : Pl) : Prop where
 n : p.pts.length ≤ 6
 rise : RiseK kPt p.pts
 many : p.secs.countP hasPt = p.pts.length
 each : ∀ i (h : i < p.secs.length), p.secs[i].2.1 ≠ 0 → ∃ j, ∃ hj : j < p.pts.length, at1 kPt p.pts p.secs[i].2.1 = (j : Int) ∧ p.pts[j].2 = p.secs[i].1
/-- How many ends the section of that number has. -/
def endsN (l : List Sec) (id : Int) : Int := if atS l id < 0 then 0 else ((l.getD (atS l id).toNat (0, 0, [])).2.2.length : Int)
/-- The signals as the program asks for them. -/
structure SigsP (p : Pl) : Prop where
 n : p.sigs.length ≤ 10
 rise : RiseK kSg p.sigs
 each : ∀ i (h : i < p.sigs.length), 0 ≤ p.sigs[i].2.2 ∧ p.sigs[i].2.2 < endsN p.secs p.sigs[i].2.1 ∧ standsS (p.sigs.take i) p.sigs[i].2.1 p.sigs[i].2.2 = 0
/-- What the program asks of a route's signals and sections. -/
structure LeadsP (p : Pl) (r : Rt) : Prop where
 entry : ∃ k, ∃ hk : k < p.sigs.length, at1 kSg p.sigs r.entry = (k : Int) ∧ ∀ i (h : i < (r.path ++ r.over).length), (r.path ++ r.over)[i] ≠ p.sigs[k].2.1
 exit : r.exit ≠ 0 → 0 ≤ at1 kSg p.sigs r.exit ∧ r.exit ≠ r.entry
 over0 : r.exit = 0 → r.over.length = 0
 path : 1 ≤ r.path.length ∧ r.path.length ≤ 6
 over : r.over.length ≤ 2
 secs : ∀ i (h : i < (r.path ++ r.over).length), 0 ≤ atS p.secs (r.path ++ r.over)[i] ∧ ∀ m (hm : m < i), (r.path ++ r.over)[m] ≠ (r.path ++ r.over)[i]
structure FlanksP (p : Pl) (l : List Jn) : Prop where
 n : l.length ≤ 3
 each : ∀ i (h : i < l.length), 0 ≤ at1 kPt p.pts l[i].1 ∧ (∀ j (hj : j + 1 = i), (l[j]'(by omega)).1 < l[i].1) ∧ 1 ≤ l[i].2 ∧ l[i].2 ≤ 2
structure RoutesP (p : Pl) : Prop where
 n : p.routes.length ≤ 16
 rise : RiseK kRt p.routes
 each : ∀ i (h : i < p.routes.length), RouteMay p p.routes[i]
structure VersP (p : Pl) : Prop where
 ver : 1 ≤ p.ver ∧ p.ver ≤ 2147483647
 par : 0 ≤ p.par ∧ p.par < p.ver
end Go.Proofs.Ytneeocnjfnneoaa
